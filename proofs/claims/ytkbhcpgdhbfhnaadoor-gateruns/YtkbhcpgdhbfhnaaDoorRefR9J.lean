/-
  Texts joined: some of those that the proofs of this seat stand on.
-/
import Derived.Test.YtkbhcpgdhbfhnaaDoorRefA9J
import Derived.Test.YtkbhcpgdhbfhnaaDoorRefH8
import Derived.Test.YtkbhcpgdhbfhnaaDoorOwn8J
import Derived.Test.YtkbhcpgdhbfhnaaDoorTwoSJ
import Derived.Test.YtkbhcpgdhbfhnaaDoorRefG
/-
  THE DOCUMENT'S Run of layer 9 (made by a program).
-/
namespace Go.Proofs.YtkbhcpgdhbfhnaaDoor
open Go.RowKit Go.Lib Go.Deep
set_option linter.unusedVariables false
set_option linter.unusedSimpArgs false

theorem SafeAt.set9 {w : World} {a : Option Addr} {c : Nat} {F : Sf} (h : SafeAt w a c F) (b : Nat) (hr : ∀ x, a = some x → x.block ≠ b) (i : Nat) (v : Value) : SafeAt (w.setCell ⟨b, i, none⟩ v) a c F := by
  refine ⟨⟨fun hp => ?_⟩, h.cap, h.rng⟩
  obtain ⟨b', off, rfl, hb, hc⟩ := h.lie.at_ hp
  have hn : b' ≠ b := hr _ rfl
  exact ⟨b', off, rfl, by simpa [World.setCell] using hb, fun i' hi j hj => (World.cell?_setCell_other _ _ _ _ (by simp [hn, Ne.symm hn])).trans (hc i' hi j hj)⟩
theorem LtS.set9 {w : World} {base : Nat} {v : Value} {l : List Lt} (h : LtS w base v l) {b : Nat} (hb : b < base) (he : ∀ x ∈ l, ∀ a, x.1 = some a → a.block ≠ b) (i : Nat) (u : Value) : LtS (w.setCell ⟨b, i, none⟩ u) base v l := by
  have q : Kept w (w.setCell ⟨b, i, none⟩ u) (some b) := (Kept.refl w (some b)).setRow i u
  exact ⟨h.own.keptR q (fun g e => by injection e with e; exact .inl (by omega)), fun x hx => (h.bys x hx).keptS q (fun hp a e ec => he x hx a e (by injection ec)), fun x hx hp a e => ⟨(h.ne x hx hp a e).1, by have := (h.ne x hx hp a e).2; simpa [World.setCell] using this⟩⟩
set_option maxRecDepth 100000 in
set_option maxHeartbeats 4000000 in
theorem rrun9_no {X : Sa} {S : St} {w : World} {pa : Option Addr} {n cp : Nat} {T : List (List Nat)} (h : Sat w X S) (hT : Tabb w) (hP : Trc w pa n T) (hs : siteB S = false) : Calls Tryd.prog 22 #[siteV X S, .slice pa n cp] w fun e w' => e = .returned (.tuple #[.slice none 0 0, .int .i64 50]) ∧ Kept w w' none := by
  have hce : checkE S = 50 := by unfold checkE; rw [hs]; rfl
  have k1 : Kept w (w.alloc (.cells #[.int .i64 S.id, .slice X.g S.groups.length X.gc, .slice X.a S.apart.length X.ac, .slice X.b S.between.length X.bc, .slice X.p S.phases.length X.pc, .slice X.e S.eyes.length X.ec, .int .i64 S.watch, .int .i64 S.feed, .int .i64 S.heal, .int .i64 S.low, .int .i64 S.high, .slice X.l S.plans.length X.lc] 34)) none := Kept.alloc _ _ _ _ _
  have hsb := sbox_alloc h 34
  have hsz : (w.alloc (.cells #[.int .i64 S.id, .slice X.g S.groups.length X.gc, .slice X.a S.apart.length X.ac, .slice X.b S.between.length X.bc, .slice X.p S.phases.length X.pc, .slice X.e S.eyes.length X.ec, .int .i64 S.watch, .int .i64 S.feed, .int .i64 S.heal, .int .i64 S.low, .int .i64 S.high, .slice X.l S.plans.length X.lc] 34)).heap.size = w.heap.size + 1 := by simp
  obtain ⟨W1, hW1⟩ : ∃ W1, w.alloc (.cells #[.int .i64 S.id, .slice X.g S.groups.length X.gc, .slice X.a S.apart.length X.ac, .slice X.b S.between.length X.bc, .slice X.p S.phases.length X.pc, .slice X.e S.eyes.length X.ec, .int .i64 S.watch, .int .i64 S.feed, .int .i64 S.heal, .int .i64 S.low, .int .i64 S.high, .slice X.l S.plans.length X.lc] 34) = W1 := ⟨_, rfl⟩
  have hSA := h.kept k1
  have hTA := hT.kept k1
  have hPA := hP.kept k1
  rw [hW1] at k1 hsb hsz hSA hTA hPA
  have HSB := Hid.mk' hsb
  have HSZ := Hid.mk' hsz
  have HK := Hid.mk' k1
  have HS := Hid.mk' hSA
  have HT := Hid.mk' hTA
  have HP := Hid.mk' hPA
  have hPm := hP.max
  have hK0 := Kept.refl W1 none
  have s0_ : ∀ w', Kept W1 w' none → w'.cell? ⟨w.heap.size, 0, none⟩ = some (.int .i64 S.id) := fun w' q => (HSB.out.kept q).c0
  have s1_ : ∀ w', Kept W1 w' none → w'.cell? ⟨w.heap.size, 1, none⟩ = some (.slice X.g S.groups.length X.gc) := fun w' q => (HSB.out.kept q).c1
  have s2_ : ∀ w', Kept W1 w' none → w'.cell? ⟨w.heap.size, 2, none⟩ = some (.slice X.a S.apart.length X.ac) := fun w' q => (HSB.out.kept q).c2
  have s3_ : ∀ w', Kept W1 w' none → w'.cell? ⟨w.heap.size, 3, none⟩ = some (.slice X.b S.between.length X.bc) := fun w' q => (HSB.out.kept q).c3
  have s4_ : ∀ w', Kept W1 w' none → w'.cell? ⟨w.heap.size, 4, none⟩ = some (.slice X.p S.phases.length X.pc) := fun w' q => (HSB.out.kept q).c4
  have s5_ : ∀ w', Kept W1 w' none → w'.cell? ⟨w.heap.size, 5, none⟩ = some (.slice X.e S.eyes.length X.ec) := fun w' q => (HSB.out.kept q).c5
  have s6_ : ∀ w', Kept W1 w' none → w'.cell? ⟨w.heap.size, 6, none⟩ = some (.int .i64 S.watch) := fun w' q => (HSB.out.kept q).c6
  have s7_ : ∀ w', Kept W1 w' none → w'.cell? ⟨w.heap.size, 7, none⟩ = some (.int .i64 S.feed) := fun w' q => (HSB.out.kept q).c7
  have s8_ : ∀ w', Kept W1 w' none → w'.cell? ⟨w.heap.size, 8, none⟩ = some (.int .i64 S.heal) := fun w' q => (HSB.out.kept q).c8
  have s9_ : ∀ w', Kept W1 w' none → w'.cell? ⟨w.heap.size, 9, none⟩ = some (.int .i64 S.low) := fun w' q => (HSB.out.kept q).c9
  have s10_ : ∀ w', Kept W1 w' none → w'.cell? ⟨w.heap.size, 10, none⟩ = some (.int .i64 S.high) := fun w' q => (HSB.out.kept q).c10
  have s11_ : ∀ w', Kept W1 w' none → w'.cell? ⟨w.heap.size, 11, none⟩ = some (.slice X.l S.plans.length X.lc) := fun w' q => (HSB.out.kept q).c11
  clear h hT hP k1 hsb hsz hSA hTA hPA
  go_enter Tryd.func22, Tryd.ntmps22
  go_wp2_with (first | rw [hW1] | (go_at_call 32; have hx := rcheck_any HS.out; rw [hce] at hx; refine hx.mono ?_; rintro e wC ⟨rfl, hkC⟩; have hKC : Kept W1 wC none := hkC; clear hx))
  go_ret2
  exact ⟨rfl, HK.out.tr hKC⟩
set_option maxRecDepth 100000 in
set_option maxHeartbeats 4000000 in
theorem rrun9_many {X : Sa} {S : St} {w : World} {pa : Option Addr} {n cp : Nat} {T : List (List Nat)} (h : Sat w X S) (hT : Tabb w) (hP : Trc w pa n T) (hs : siteB S = true) (hn : 4096 < n) : Calls Tryd.prog 22 #[siteV X S, .slice pa n cp] w fun e w' => e = .returned (.tuple #[.slice none 0 0, .int .i64 4]) ∧ Kept w w' none := by
  have hce : checkE S = 0 := by unfold checkE; rw [hs]; rfl
  have k1 : Kept w (w.alloc (.cells #[.int .i64 S.id, .slice X.g S.groups.length X.gc, .slice X.a S.apart.length X.ac, .slice X.b S.between.length X.bc, .slice X.p S.phases.length X.pc, .slice X.e S.eyes.length X.ec, .int .i64 S.watch, .int .i64 S.feed, .int .i64 S.heal, .int .i64 S.low, .int .i64 S.high, .slice X.l S.plans.length X.lc] 34)) none := Kept.alloc _ _ _ _ _
  have hsb := sbox_alloc h 34
  have hsz : (w.alloc (.cells #[.int .i64 S.id, .slice X.g S.groups.length X.gc, .slice X.a S.apart.length X.ac, .slice X.b S.between.length X.bc, .slice X.p S.phases.length X.pc, .slice X.e S.eyes.length X.ec, .int .i64 S.watch, .int .i64 S.feed, .int .i64 S.heal, .int .i64 S.low, .int .i64 S.high, .slice X.l S.plans.length X.lc] 34)).heap.size = w.heap.size + 1 := by simp
  obtain ⟨W1, hW1⟩ : ∃ W1, w.alloc (.cells #[.int .i64 S.id, .slice X.g S.groups.length X.gc, .slice X.a S.apart.length X.ac, .slice X.b S.between.length X.bc, .slice X.p S.phases.length X.pc, .slice X.e S.eyes.length X.ec, .int .i64 S.watch, .int .i64 S.feed, .int .i64 S.heal, .int .i64 S.low, .int .i64 S.high, .slice X.l S.plans.length X.lc] 34) = W1 := ⟨_, rfl⟩
  have hSA := h.kept k1
  have hTA := hT.kept k1
  have hPA := hP.kept k1
  rw [hW1] at k1 hsb hsz hSA hTA hPA
  have HSB := Hid.mk' hsb
  have HSZ := Hid.mk' hsz
  have HK := Hid.mk' k1
  have HS := Hid.mk' hSA
  have HT := Hid.mk' hTA
  have HP := Hid.mk' hPA
  have hPm := hP.max
  have hK0 := Kept.refl W1 none
  have s0_ : ∀ w', Kept W1 w' none → w'.cell? ⟨w.heap.size, 0, none⟩ = some (.int .i64 S.id) := fun w' q => (HSB.out.kept q).c0
  have s1_ : ∀ w', Kept W1 w' none → w'.cell? ⟨w.heap.size, 1, none⟩ = some (.slice X.g S.groups.length X.gc) := fun w' q => (HSB.out.kept q).c1
  have s2_ : ∀ w', Kept W1 w' none → w'.cell? ⟨w.heap.size, 2, none⟩ = some (.slice X.a S.apart.length X.ac) := fun w' q => (HSB.out.kept q).c2
  have s3_ : ∀ w', Kept W1 w' none → w'.cell? ⟨w.heap.size, 3, none⟩ = some (.slice X.b S.between.length X.bc) := fun w' q => (HSB.out.kept q).c3
  have s4_ : ∀ w', Kept W1 w' none → w'.cell? ⟨w.heap.size, 4, none⟩ = some (.slice X.p S.phases.length X.pc) := fun w' q => (HSB.out.kept q).c4
  have s5_ : ∀ w', Kept W1 w' none → w'.cell? ⟨w.heap.size, 5, none⟩ = some (.slice X.e S.eyes.length X.ec) := fun w' q => (HSB.out.kept q).c5
  have s6_ : ∀ w', Kept W1 w' none → w'.cell? ⟨w.heap.size, 6, none⟩ = some (.int .i64 S.watch) := fun w' q => (HSB.out.kept q).c6
  have s7_ : ∀ w', Kept W1 w' none → w'.cell? ⟨w.heap.size, 7, none⟩ = some (.int .i64 S.feed) := fun w' q => (HSB.out.kept q).c7
  have s8_ : ∀ w', Kept W1 w' none → w'.cell? ⟨w.heap.size, 8, none⟩ = some (.int .i64 S.heal) := fun w' q => (HSB.out.kept q).c8
  have s9_ : ∀ w', Kept W1 w' none → w'.cell? ⟨w.heap.size, 9, none⟩ = some (.int .i64 S.low) := fun w' q => (HSB.out.kept q).c9
  have s10_ : ∀ w', Kept W1 w' none → w'.cell? ⟨w.heap.size, 10, none⟩ = some (.int .i64 S.high) := fun w' q => (HSB.out.kept q).c10
  have s11_ : ∀ w', Kept W1 w' none → w'.cell? ⟨w.heap.size, 11, none⟩ = some (.slice X.l S.plans.length X.lc) := fun w' q => (HSB.out.kept q).c11
  clear h hT hP k1 hsb hsz hSA hTA hPA
  go_enter Tryd.func22, Tryd.ntmps22
  go_wp2_with (first | rw [hW1] | (go_at_call 32; have hx := rcheck_any HS.out; rw [hce] at hx; refine hx.mono ?_; rintro e wC ⟨rfl, hkC⟩; have hKC : Kept W1 wC none := hkC; clear hx))
  go_ret2
  exact ⟨rfl, HK.out.tr hKC⟩
set_option maxRecDepth 100000 in
set_option maxHeartbeats 4000000 in
theorem rrun9_ask {X : Sa} {S : St} {w : World} {pa : Option Addr} {n cp : Nat} {T : List (List Nat)} (h : Sat w X S) (hT : Tabb w) (hP : Trc w pa n T) (hs : siteB S = true) (hn : n ≤ 4096) {k0 : Nat} (hk0 : k0 < n) (hbad : (tk T k0).length ≠ S.groups.length) : Calls Tryd.prog 22 #[siteV X S, .slice pa n cp] w fun e w' => e = .returned (.tuple #[.slice none 0 0, .int .i64 90]) ∧ Kept w w' none := by
  have hce : checkE S = 0 := by unfold checkE; rw [hs]; rfl
  have HBAD := Hid.mk' hbad
  clear hbad
  have k1 : Kept w (w.alloc (.cells #[.int .i64 S.id, .slice X.g S.groups.length X.gc, .slice X.a S.apart.length X.ac, .slice X.b S.between.length X.bc, .slice X.p S.phases.length X.pc, .slice X.e S.eyes.length X.ec, .int .i64 S.watch, .int .i64 S.feed, .int .i64 S.heal, .int .i64 S.low, .int .i64 S.high, .slice X.l S.plans.length X.lc] 34)) none := Kept.alloc _ _ _ _ _
  have hsb := sbox_alloc h 34
  have hsz : (w.alloc (.cells #[.int .i64 S.id, .slice X.g S.groups.length X.gc, .slice X.a S.apart.length X.ac, .slice X.b S.between.length X.bc, .slice X.p S.phases.length X.pc, .slice X.e S.eyes.length X.ec, .int .i64 S.watch, .int .i64 S.feed, .int .i64 S.heal, .int .i64 S.low, .int .i64 S.high, .slice X.l S.plans.length X.lc] 34)).heap.size = w.heap.size + 1 := by simp
  obtain ⟨W1, hW1⟩ : ∃ W1, w.alloc (.cells #[.int .i64 S.id, .slice X.g S.groups.length X.gc, .slice X.a S.apart.length X.ac, .slice X.b S.between.length X.bc, .slice X.p S.phases.length X.pc, .slice X.e S.eyes.length X.ec, .int .i64 S.watch, .int .i64 S.feed, .int .i64 S.heal, .int .i64 S.low, .int .i64 S.high, .slice X.l S.plans.length X.lc] 34) = W1 := ⟨_, rfl⟩
  have hSA := h.kept k1
  have hTA := hT.kept k1
  have hPA := hP.kept k1
  rw [hW1] at k1 hsb hsz hSA hTA hPA
  have HSB := Hid.mk' hsb
  have HSZ := Hid.mk' hsz
  have HK := Hid.mk' k1
  have HS := Hid.mk' hSA
  have HT := Hid.mk' hTA
  have HP := Hid.mk' hPA
  have hPm := hP.max
  have hK0 := Kept.refl W1 none
  have s0_ : ∀ w', Kept W1 w' none → w'.cell? ⟨w.heap.size, 0, none⟩ = some (.int .i64 S.id) := fun w' q => (HSB.out.kept q).c0
  have s1_ : ∀ w', Kept W1 w' none → w'.cell? ⟨w.heap.size, 1, none⟩ = some (.slice X.g S.groups.length X.gc) := fun w' q => (HSB.out.kept q).c1
  have s2_ : ∀ w', Kept W1 w' none → w'.cell? ⟨w.heap.size, 2, none⟩ = some (.slice X.a S.apart.length X.ac) := fun w' q => (HSB.out.kept q).c2
  have s3_ : ∀ w', Kept W1 w' none → w'.cell? ⟨w.heap.size, 3, none⟩ = some (.slice X.b S.between.length X.bc) := fun w' q => (HSB.out.kept q).c3
  have s4_ : ∀ w', Kept W1 w' none → w'.cell? ⟨w.heap.size, 4, none⟩ = some (.slice X.p S.phases.length X.pc) := fun w' q => (HSB.out.kept q).c4
  have s5_ : ∀ w', Kept W1 w' none → w'.cell? ⟨w.heap.size, 5, none⟩ = some (.slice X.e S.eyes.length X.ec) := fun w' q => (HSB.out.kept q).c5
  have s6_ : ∀ w', Kept W1 w' none → w'.cell? ⟨w.heap.size, 6, none⟩ = some (.int .i64 S.watch) := fun w' q => (HSB.out.kept q).c6
  have s7_ : ∀ w', Kept W1 w' none → w'.cell? ⟨w.heap.size, 7, none⟩ = some (.int .i64 S.feed) := fun w' q => (HSB.out.kept q).c7
  have s8_ : ∀ w', Kept W1 w' none → w'.cell? ⟨w.heap.size, 8, none⟩ = some (.int .i64 S.heal) := fun w' q => (HSB.out.kept q).c8
  have s9_ : ∀ w', Kept W1 w' none → w'.cell? ⟨w.heap.size, 9, none⟩ = some (.int .i64 S.low) := fun w' q => (HSB.out.kept q).c9
  have s10_ : ∀ w', Kept W1 w' none → w'.cell? ⟨w.heap.size, 10, none⟩ = some (.int .i64 S.high) := fun w' q => (HSB.out.kept q).c10
  have s11_ : ∀ w', Kept W1 w' none → w'.cell? ⟨w.heap.size, 11, none⟩ = some (.slice X.l S.plans.length X.lc) := fun w' q => (HSB.out.kept q).c11
  clear h hT hP k1 hsb hsz hSA hTA hPA
  go_enter Tryd.func22, Tryd.ntmps22
  go_wp2_with (first | rw [hW1] | (go_at_call 32; have hx := rcheck_any HS.out; rw [hce] at hx; refine hx.mono ?_; rintro e wC ⟨rfl, hkC⟩; have hKC : Kept W1 wC none := hkC; clear hx))
  have HKC := Hid.mk' hKC
  clear hkC hKC
  go_loopw [7] (fun i wr => ∃ k : Nat, k ≤ n ∧ i = .int .i64 k ∧ Kept W1 wr none ∧ ∀ j, j < k → (tk T j).length = S.groups.length) (fun i _ => n - (intOf i).toNat)
  case atStart => exact ⟨0, by omega, rfl, HKC.out, fun j hj => by omega⟩
  case round =>
    obtain ⟨k, hk, rfl, hkw, hno⟩ := hrel
    have HN := Hid.mk' hno
    have HKW := Hid.mk' hkw
    by_cases hlt : k < n
    · obtain ⟨bp, op, rfl, hbp, hcp⟩ := HP.out.at_ (by omega)
      obtain ⟨al, cl, kc0, hB0⟩ := hcp k hlt
      have kc := cell_kept0 kc0 hkw
      have c1 := s1_ wr hkw
      have HEX : Hid ((tk T k).length = S.groups.length → ∀ j, j < k + 1 → (tk T j).length = S.groups.length) := fun e => ext_no hno e
      clear hcp kc0 hB0 hno hkw
      by_cases hq : (tk T k).length = S.groups.length
      · have HN2 := Hid.mk' (HEX.out hq)
        have hqb : (((tk T k).length : Int) != (S.groups.length : Int)) = false := by simp; omega
        clear hq HEX
        generalize (tk T k).length = tl at *
        go_wp2
        go_quiet (fail)
        go_wp2
        go_roundw
        case rel => exact ⟨k + 1, by omega, by go_num, HKW.out.tr (Kept.drewN _ _ _), HN2.out⟩
        case measure => simp [intOf]; omega
      · have hqb : (((tk T k).length : Int) != (S.groups.length : Int)) = true := by simp; omega
        clear hq HEX
        generalize (tk T k).length = tl at *
        go_wp2
        go_quiet (fail)
        go_wp2
        go_ret2
        exact ⟨rfl, HK.out.tr (HKW.out.tr (Kept.drewN _ _ _))⟩
    · have e : n = k := by omega
      exact absurd (HN.out k0 (by omega)) HBAD.out
set_option maxRecDepth 100000 in
set_option maxHeartbeats 4000000 in
theorem rrun9_go {X : Sa} {S : St} {w : World} {pa : Option Addr} {n cp : Nat} {T : List (List Nat)} (h : Sat w X S) (hT : Tabb w) (hP : Trc w pa n T) (hs : siteB S = true) (hn : n ≤ 200) (hall : ∀ k, k < n → (tk T k).length = S.groups.length) : Calls Tryd.prog 22 #[siteV X S, .slice pa n cp] w fun e w' => ∃ a' c', e = .returned (.tuple #[.slice a' n c', .int .i64 0]) ∧ Trc w' a' n (runV S T) ∧ n ≤ c' ∧ Kept w w' none := by
  have hce : checkE S = 0 := by unfold checkE; rw [hs]; rfl
  have HTL := Hid.mk' hP.size
  have HSH := Hid.mk' (span_may hs).base.sh
  have hng := HSH.out.ok.ng
  have hnz : 0 < S.groups.length := by omega
  have HALL := Hid.mk' hall
  clear hall
  have k1 : Kept w (w.alloc (.cells #[.int .i64 S.id, .slice X.g S.groups.length X.gc, .slice X.a S.apart.length X.ac, .slice X.b S.between.length X.bc, .slice X.p S.phases.length X.pc, .slice X.e S.eyes.length X.ec, .int .i64 S.watch, .int .i64 S.feed, .int .i64 S.heal, .int .i64 S.low, .int .i64 S.high, .slice X.l S.plans.length X.lc] 34)) none := Kept.alloc _ _ _ _ _
  have hsb := sbox_alloc h 34
  have hsz : (w.alloc (.cells #[.int .i64 S.id, .slice X.g S.groups.length X.gc, .slice X.a S.apart.length X.ac, .slice X.b S.between.length X.bc, .slice X.p S.phases.length X.pc, .slice X.e S.eyes.length X.ec, .int .i64 S.watch, .int .i64 S.feed, .int .i64 S.heal, .int .i64 S.low, .int .i64 S.high, .slice X.l S.plans.length X.lc] 34)).heap.size = w.heap.size + 1 := by simp
  obtain ⟨W1, hW1⟩ : ∃ W1, w.alloc (.cells #[.int .i64 S.id, .slice X.g S.groups.length X.gc, .slice X.a S.apart.length X.ac, .slice X.b S.between.length X.bc, .slice X.p S.phases.length X.pc, .slice X.e S.eyes.length X.ec, .int .i64 S.watch, .int .i64 S.feed, .int .i64 S.heal, .int .i64 S.low, .int .i64 S.high, .slice X.l S.plans.length X.lc] 34) = W1 := ⟨_, rfl⟩
  have hSA := h.kept k1
  have hTA := hT.kept k1
  have hPA := hP.kept k1
  rw [hW1] at k1 hsb hsz hSA hTA hPA
  have HSB := Hid.mk' hsb
  have HSZ := Hid.mk' hsz
  have HK := Hid.mk' k1
  have HS := Hid.mk' hSA
  have HT := Hid.mk' hTA
  have HP := Hid.mk' hPA
  have hPm := hP.max
  have hK0 := Kept.refl W1 none
  have s0_ : ∀ w', Kept W1 w' none → w'.cell? ⟨w.heap.size, 0, none⟩ = some (.int .i64 S.id) := fun w' q => (HSB.out.kept q).c0
  have s1_ : ∀ w', Kept W1 w' none → w'.cell? ⟨w.heap.size, 1, none⟩ = some (.slice X.g S.groups.length X.gc) := fun w' q => (HSB.out.kept q).c1
  have s2_ : ∀ w', Kept W1 w' none → w'.cell? ⟨w.heap.size, 2, none⟩ = some (.slice X.a S.apart.length X.ac) := fun w' q => (HSB.out.kept q).c2
  have s3_ : ∀ w', Kept W1 w' none → w'.cell? ⟨w.heap.size, 3, none⟩ = some (.slice X.b S.between.length X.bc) := fun w' q => (HSB.out.kept q).c3
  have s4_ : ∀ w', Kept W1 w' none → w'.cell? ⟨w.heap.size, 4, none⟩ = some (.slice X.p S.phases.length X.pc) := fun w' q => (HSB.out.kept q).c4
  have s5_ : ∀ w', Kept W1 w' none → w'.cell? ⟨w.heap.size, 5, none⟩ = some (.slice X.e S.eyes.length X.ec) := fun w' q => (HSB.out.kept q).c5
  have s6_ : ∀ w', Kept W1 w' none → w'.cell? ⟨w.heap.size, 6, none⟩ = some (.int .i64 S.watch) := fun w' q => (HSB.out.kept q).c6
  have s7_ : ∀ w', Kept W1 w' none → w'.cell? ⟨w.heap.size, 7, none⟩ = some (.int .i64 S.feed) := fun w' q => (HSB.out.kept q).c7
  have s8_ : ∀ w', Kept W1 w' none → w'.cell? ⟨w.heap.size, 8, none⟩ = some (.int .i64 S.heal) := fun w' q => (HSB.out.kept q).c8
  have s9_ : ∀ w', Kept W1 w' none → w'.cell? ⟨w.heap.size, 9, none⟩ = some (.int .i64 S.low) := fun w' q => (HSB.out.kept q).c9
  have s10_ : ∀ w', Kept W1 w' none → w'.cell? ⟨w.heap.size, 10, none⟩ = some (.int .i64 S.high) := fun w' q => (HSB.out.kept q).c10
  have s11_ : ∀ w', Kept W1 w' none → w'.cell? ⟨w.heap.size, 11, none⟩ = some (.slice X.l S.plans.length X.lc) := fun w' q => (HSB.out.kept q).c11
  clear h hT hP k1 hsb hsz hSA hTA hPA
  go_enter Tryd.func22, Tryd.ntmps22
  go_wp2_with (first | rw [hW1] | (go_at_call 32; have hx := rcheck_any HS.out; rw [hce] at hx; refine hx.mono ?_; rintro e wC ⟨rfl, hkC⟩; have hKC : Kept W1 wC none := hkC; clear hx))
  have HKC := Hid.mk' hKC
  clear hkC hKC
  go_loopw [7] (fun i wr => ∃ k : Nat, k ≤ n ∧ i = .int .i64 k ∧ Kept W1 wr none ∧ ∀ j, j < k → (tk T j).length = S.groups.length) (fun i _ => n - (intOf i).toNat)
  case atStart => exact ⟨0, by omega, rfl, HKC.out, fun j hj => by omega⟩
  case round =>
    obtain ⟨k, hk, rfl, hkw, hno⟩ := hrel
    have HN := Hid.mk' hno
    have HKW := Hid.mk' hkw
    by_cases hlt : k < n
    · obtain ⟨bp, op, rfl, hbp, hcp⟩ := HP.out.at_ (by omega)
      obtain ⟨al, cl, kc0, hB0⟩ := hcp k hlt
      have kc := cell_kept0 kc0 hkw
      have c1 := s1_ wr hkw
      have HEX : Hid ((tk T k).length = S.groups.length → ∀ j, j < k + 1 → (tk T j).length = S.groups.length) := fun e => ext_no hno e
      clear hcp kc0 hB0 hno hkw
      have hq := HALL.out k hlt
      have HN2 := Hid.mk' (HEX.out hq)
      have hqb : (((tk T k).length : Int) != (S.groups.length : Int)) = false := by simp; omega
      clear hq HEX
      generalize (tk T k).length = tl at *
      go_wp2
      go_quiet (fail)
      go_wp2
      go_roundw
      case rel => exact ⟨k + 1, by omega, by go_num, HKW.out.tr (Kept.drewN _ _ _), HN2.out⟩
      case measure => simp [intOf]; omega
    · have e : n = k := by omega
      subst e
      obtain ⟨wo, hwo⟩ : ∃ wo, wo = wr := ⟨_, rfl⟩
      subst hwo
      clear hno
      go_wp2_with (go_at_call 35; refine (rstart_own (HS.out.kept hkw) hs).mono ?_; rintro e wT ⟨a0, c0, rfl, hsf0, hnew0, hkT⟩)
      have kN : Kept wT (wT.alloc (.cells #[.slice a0 S.groups.length c0, .int .i64 (worstM S), .bool false] 41)) none := Kept.alloc _ _ _ _ _
      have bN := box_alloc wT (.slice a0 S.groups.length c0) (.int .i64 (worstM S)) (.bool false) 41
      have hz2 : (wT.alloc (.cells #[.slice a0 S.groups.length c0, .int .i64 (worstM S), .bool false] 41)).heap.size = wT.heap.size + 1 := by simp
      obtain ⟨W2, hW2⟩ : ∃ W2, wT.alloc (.cells #[.slice a0 S.groups.length c0, .int .i64 (worstM S), .bool false] 41) = W2 := ⟨_, rfl⟩
      rw [hW2] at kN bN hz2 ⊢
      have hab0 : ∀ b, a0 = some b → b.block ≠ wT.heap.size := by
        obtain ⟨b', off, e', hb, _⟩ := hsf0.lie.at_ (by rw [firstV_len]; omega)
        intro b e
        rw [e] at e'
        injection e' with e'
        subst e'
        exact Nat.ne_of_lt hb
      have HK2 := Hid.mk' ((HKW.out.tr hkT).tr kN)
      have BN := Hid.mk' bN
      have HSF2 := Hid.mk' (hsf0.kept kN)
      have hbz := (HKW.out.tr hkT).size
      clear hW2 kN bN hsf0 hkT hkw hnew0
      generalize wT.heap.size = bN at *
      go_loopw [8, 10, 11] (fun o i _ wr => ∃ k : Nat, k ≤ n ∧ i = .int .i64 k ∧ Kept W1 wr none ∧ W2.heap.size ≤ wr.heap.size ∧ (∃ a c, Box wr bN (.slice a S.groups.length c) (.int .i64 (runF S T k).start) (.bool (runF S T k).flashed) ∧ SafeAt wr a c (runF S T k) ∧ (∀ b, a = some b → b.block ≠ bN ∧ ∀ g, o.ownBlock = some g → b.block ≠ g)) ∧ ∃ l : List Lt, l.length = k ∧ LtS wr W2.heap.size o l ∧ l.map (·.2.1) = (List.range k).map (runL S T) ∧ ∀ x ∈ l, ∀ b, x.1 = some b → b.block ≠ bN) (fun _ i _ _ => n - (intOf i).toNat)
      case atStart => exact ⟨0, by omega, rfl, HK2.out, Nat.le_refl _, ⟨a0, c0, BN.out, HSF2.out, fun b e => ⟨hab0 b e, fun g eg => (nomatch eg)⟩⟩, [], rfl, LtS.nil _ _, rfl, fun _ hx => (nomatch hx)⟩
      case round =>
        obtain ⟨k, hk, rfl, hkw, hgr, ⟨a, c, hbx, hsf, hab⟩, l, hll, hL, hmap, hlb⟩ := hrel
        obtain ⟨aO, cO, rfl⟩ := hL.shape
        by_cases hlt : k < n
        · obtain ⟨bp, op, rfl, hbp, hcp⟩ := HP.out.at_ (by omega)
          obtain ⟨al, cl, kc0, hB0⟩ := hcp k hlt
          have hA := HALL.out k hlt
          have hgo := run_goes hs (fun k hk => HALL.out k (by have := HTL.out; omega)) k (by have := HTL.out; omega)
          have hFl := (mayS_parts (goes_parts hgo).1).1
          have hFst := (mayS_parts (goes_parts hgo).1).2.1
          have HNX0 : Hid (runF S T (k + 1) = behindV S (runF S T k) (runL S T k)) := rfl
          have HRL : Hid (letV S (runF S T k) (tk T k) = runL S T k) := rfl
          have hLLn : (runL S T k).length = S.groups.length := (letV_len _ _ _).trans hA
          obtain ⟨bf, off, rfl, hbf, hcf⟩ := hsf.lie.at_ (by omega)
          have hByk : By wr al (tk T k).length (tk T k) := hB0.kept hkw
          rw [hA] at hByk
          obtain ⟨ba, oa, rfl, _, _⟩ := hByk.at_ (by omega)
          have hFr : S.groups.length ≤ c := by have := hsf.cap.room; omega
          have hFm := hsf.cap.max
          have kc : ∀ w', Kept wr w' none → w'.cell? ⟨bp, op + k, none⟩ = some (.slice (some ⟨ba, oa, none⟩) S.groups.length cl) := fun w' q => by have h5 := cell_kept0 kc0 (hkw.tr q); rw [hA] at h5; exact h5
          have HLET : Hid (∀ w', Kept wr w' none → Calls Tryd.prog 34 #[siteV X S, .agg #[.slice (some ⟨bf, off, none⟩) S.groups.length c, .int .i64 (runF S T k).start, .bool (runF S T k).flashed], .slice (some ⟨ba, oa, none⟩) S.groups.length cl] w' fun e w2 => ∃ a' c', e = .returned (.slice a' S.groups.length c') ∧ By w2 a' S.groups.length (runL S T k) ∧ (∀ b, a' = some b → wr.heap.size ≤ b.block) ∧ Kept w' w2 none) := fun w' q => (rlet9_any (HS.out.kept (hkw.tr q)) HSH.out (hsf.kept q) hFl (hByk.kept q) (HT.out.kept (hkw.tr q))).mono (fun e w2 ⟨a', c', h1, h2, h3, h4⟩ => ⟨a', c', h1, h2, fun b e => Nat.le_trans q.size (h3 b e), h4⟩)
          have x0 : ∀ w', Kept wr w' none → w'.cell? ⟨bN, 0, none⟩ = some (.slice (some ⟨bf, off, none⟩) S.groups.length c) := fun w' q => (hbx.kept q).c0
          have x1 : ∀ w', Kept wr w' none → w'.cell? ⟨bN, 1, none⟩ = some (.int .i64 (runF S T k).start) := fun w' q => (hbx.kept q).c1
          have x2 : ∀ w', Kept wr w' none → w'.cell? ⟨bN, 2, none⟩ = some (.bool (runF S T k).flashed) := fun w' q => (hbx.kept q).c2
          have r0_ : ∀ w', Kept wr w' none → w'.cell? ⟨w.heap.size, 0, none⟩ = some (.int .i64 S.id) := fun w' q => s0_ w' (hkw.tr q)
          have r1_ : ∀ w', Kept wr w' none → w'.cell? ⟨w.heap.size, 1, none⟩ = some (.slice X.g S.groups.length X.gc) := fun w' q => s1_ w' (hkw.tr q)
          have r2_ : ∀ w', Kept wr w' none → w'.cell? ⟨w.heap.size, 2, none⟩ = some (.slice X.a S.apart.length X.ac) := fun w' q => s2_ w' (hkw.tr q)
          have r3_ : ∀ w', Kept wr w' none → w'.cell? ⟨w.heap.size, 3, none⟩ = some (.slice X.b S.between.length X.bc) := fun w' q => s3_ w' (hkw.tr q)
          have r4_ : ∀ w', Kept wr w' none → w'.cell? ⟨w.heap.size, 4, none⟩ = some (.slice X.p S.phases.length X.pc) := fun w' q => s4_ w' (hkw.tr q)
          have r5_ : ∀ w', Kept wr w' none → w'.cell? ⟨w.heap.size, 5, none⟩ = some (.slice X.e S.eyes.length X.ec) := fun w' q => s5_ w' (hkw.tr q)
          have r6_ : ∀ w', Kept wr w' none → w'.cell? ⟨w.heap.size, 6, none⟩ = some (.int .i64 S.watch) := fun w' q => s6_ w' (hkw.tr q)
          have r7_ : ∀ w', Kept wr w' none → w'.cell? ⟨w.heap.size, 7, none⟩ = some (.int .i64 S.feed) := fun w' q => s7_ w' (hkw.tr q)
          have r8_ : ∀ w', Kept wr w' none → w'.cell? ⟨w.heap.size, 8, none⟩ = some (.int .i64 S.heal) := fun w' q => s8_ w' (hkw.tr q)
          have r9_ : ∀ w', Kept wr w' none → w'.cell? ⟨w.heap.size, 9, none⟩ = some (.int .i64 S.low) := fun w' q => s9_ w' (hkw.tr q)
          have r10_ : ∀ w', Kept wr w' none → w'.cell? ⟨w.heap.size, 10, none⟩ = some (.int .i64 S.high) := fun w' q => s10_ w' (hkw.tr q)
          have r11_ : ∀ w', Kept wr w' none → w'.cell? ⟨w.heap.size, 11, none⟩ = some (.slice X.l S.plans.length X.lc) := fun w' q => s11_ w' (hkw.tr q)
          have HKR := Hid.mk' hkw
          have HBX := Hid.mk' hbx
          have HSF := Hid.mk' hsf
          have HL := Hid.mk' hL
          have HLL := Hid.mk' hll
          have HMAP := Hid.mk' hmap
          have HLB := Hid.mk' hlb
          have HAB := Hid.mk' hab
          have HFL := Hid.mk' hFl
          have HFS := Hid.mk' hFst
          have HLN := Hid.mk' hLLn
          have HCF : Hid (∀ i, i < S.groups.length → ∀ j, j < 3 → wr.cell? ⟨bf, off + i * 3 + j, none⟩ = some (snV ((runF S T k).g i) j)) := fun i hi j hj => hcf i (by omega) j hj
          have hR0 := Kept.refl wr none
          clear hkw hbx hsf hL hll hmap hlb hcp kc0 hB0 hA hgo hFl hFst HRL hByk hcf hbf hLLn
          go_wp2
          go_region_held (fun w' => Kept wr w' none)
            ((first | exact hR0 | exact Kept.drew _ _ | assumption | exact Kept.tr (by assumption) (Kept.drew _ _)))
            ((go_at_call 34; refine (HLET.out _ (by assumption)).mono ?_; rintro e wL ⟨aL, cL, rfl, hbL, hnL2, hkL⟩; have hKL : Kept wr wL none := Kept.tr (by assumption) hkL))
          all_goals
          have hown := HL.out.own.lt
          obtain ⟨bl, ol, eL, hbl, hcl⟩ := hbL.at_ hnz
          subst eL
          have hwb := hnL2 _ rfl
          dsimp only at hwb
          have hLk := HL.out.kept hKL
          have hbNl := HBX.out.lt
          have hblL := HLN.out
          have hBy2 : By wL (some ⟨bl, ol, none⟩) (runL S T k).length (runL S T k) := by rw [HLN.out]; exact hbL
          obtain ⟨a5, c5, w5, hr5, hL5, hk5⟩ := hLk.grow (some ⟨bl, ol, none⟩, runL S T k, cL) hBy2 (fun b e => by
            injection e with e
            subst e
            refine ⟨fun ec => ?_, hbl⟩
            have h9 : bl < wr.heap.size := (hown _ ec).2
            omega) (by have := HLL.out; omega) (Nat.le_trans hgr hKL.size)
          dsimp only at hr5
          rw [HLN.out] at hr5
          have hk5' : Kept W1 w5 none := (HKR.out.tr hKL).newRow hk5 (fun i e => by have := (hown i e).1; have := HK2.out.size; omega)
          have hbxL := HBX.out.kept hKL
          have hne5 : ∀ g, (Value.slice aO l.length cO).ownBlock = some g → g ≠ bN := fun g e => by have := (hown g e).1; omega
          have hbx5 : Box w5 bN (.slice (some ⟨bf, off, none⟩) S.groups.length c) (.int .i64 (runF S T k).start) (.bool (runF S T k).flashed) := hbxL.keptR hk5 (fun e => hne5 bN e.symm rfl)
          have hbne : ∀ g, (Value.slice aO l.length cO).ownBlock = some g → g ≠ bl := fun g e => by have := (hown g e).2; omega
          have hbfg := (HAB.out _ rfl).2
          have cf5 : ∀ i, i < S.groups.length → ∀ j, j < 3 → w5.cell? ⟨bf, off + i * 3 + j, none⟩ = some (snV ((runF S T k).g i) j) := fun i hi j hj => cell_keptS (cell_kept0 (HCF.out i hi j hj) hKL) hk5 (fun e => hbfg _ e.symm rfl)
          have hB5 : By w5 (some ⟨bl, ol, none⟩) S.groups.length (runL S T k) := hbL.keptS hk5 (fun hp b e ec => by
            injection e with e
            subst e
            exact hbne _ ec.symm rfl)
          have cl5 : ∀ i, i < S.groups.length → w5.cell? ⟨bl, ol + i, none⟩ = some (.int .u8 (lg (runL S T k) i : Int)) := by
            obtain ⟨b', o', e', _, hc'⟩ := hB5.at_ hnz
            injection e' with e'
            injection e' with e1 e2
            subst e1 e2
            exact hc'
          have hlt5 := hL5.own.lt
          have hz5 := hk5.size
          have HR5 := Hid.mk' hr5
          have HL5 := Hid.mk' hL5
          have HK5 := Hid.mk' hk5'
          have HB5 := Hid.mk' hbx5
          have HLT5 := Hid.mk' hlt5
          have HMP5 : Hid ((l ++ [((some ⟨bl, ol, none⟩, runL S T k, cL) : Lt)]).map (·.2.1) = (List.range (k + 1)).map (runL S T)) := by
            show _ = _
            rw [List.map_append, HMAP.out, List.range_succ, List.map_append]
            rfl
          have HLB5 : Hid (∀ x ∈ l ++ [((some ⟨bl, ol, none⟩, runL S T k, cL) : Lt)], ∀ b, x.1 = some b → b.block ≠ bN) := fun x hx b e => by
            rcases List.mem_append.1 hx with hx | hx
            · exact HLB.out x hx b e
            · obtain rfl : x = (some ⟨bl, ol, none⟩, runL S T k, cL) := by simpa using hx
              injection e with e
              subst e
              show bl ≠ bN
              omega
          have HLL5 : Hid ((l ++ [((some ⟨bl, ol, none⟩, runL S T k, cL) : Lt)]).length = k + 1) := by show _ = _; rw [List.length_append, HLL.out]; rfl
          have hbh : Calls Tryd.prog 36 #[siteV X S, .agg #[.slice (some ⟨bf, off, none⟩) S.groups.length c, .int .i64 (runF S T k).start, .bool (runF S T k).flashed], .slice (some ⟨bl, ol, none⟩) S.groups.length cL] w5 fun e w' => ∃ a c', e = .returned (.agg #[.slice a S.groups.length c', .int .i64 (runF S T (k + 1)).start, .bool (runF S T (k + 1)).flashed]) ∧ SafeAt w' a c' (runF S T (k + 1)) ∧ (∀ b, a = some b → w5.heap.size ≤ b.block) ∧ Kept w5 w' none := by
            rw [HNX0.out]
            have hq := HFS.out
            revert cf5 hq
            generalize runF S T k = F0
            obtain ⟨G, st, fl⟩ := F0
            intro cf5 hq
            exact rbehind_any (HS.out.kept hk5') hs cf5 hFr hFm hq cl5 hB5
          have HBH := Hid.mk' hbh
          have HW25 := Hid.mk' (Nat.le_trans (Nat.le_trans hgr hKL.size) hz5)
          have q0 := hbx5.c0
          have q1 := hbx5.c1
          have q2 := hbx5.c2
          have t0_ := s0_ w5 hk5'
          have t1_ := s1_ w5 hk5'
          have t2_ := s2_ w5 hk5'
          have t3_ := s3_ w5 hk5'
          have t4_ := s4_ w5 hk5'
          have t5_ := s5_ w5 hk5'
          have t6_ := s6_ w5 hk5'
          have t7_ := s7_ w5 hk5'
          have t8_ := s8_ w5 hk5'
          have t9_ := s9_ w5 hk5'
          have t10_ := s10_ w5 hk5'
          have t11_ := s11_ w5 hk5'
          clear hbh cf5 hB5 cl5 hlt5 hr5 hL5 hk5 hk5' hbx5 hbxL hne5 hbne hbfg hLk hBy2 hbL hcl hwb hown x0 x1 x2 kc r0_ r1_ r2_ r3_ r4_ r5_ r6_ r7_ r8_ r9_ r10_ r11_ hR0
          go_wp2_with (first
            | (go_at_call 36; refine HBH.out.mono ?_; rintro e w6 ⟨a6, c6, rfl, hsf6, hnw6, hk6⟩; have bx6 := HB5.out.kept hk6; have d0 := bx6.c0; have d1 := bx6.c1; have d2 := bx6.c2; have e0 := bx6.f0; have e1 := bx6.f1; have e2 := bx6.f2)
            | (at_builtin; refine wpList_app8 (by rfl) _ _ _ (by rfl) (by rfl) (by rfl) HR5.out ?_))
          go_roundw
          case rel =>
            have hne6 : ∀ b, a6 = some b → b.block ≠ bN := fun b e => by have := hnw6 b e; have := HB5.out.lt; omega
            have hlt7 := HLT5.out
            refine ⟨k + 1, by omega, by go_num, (((HK5.out.tr hk6).setNew (p := ⟨bN, 0, none⟩) hbz _).setNew (p := ⟨bN, 1, none⟩) hbz _).setNew (p := ⟨bN, 2, none⟩) hbz _, ?_, ⟨a6, c6, bx6.set3 _ _ _, ((hsf6.set9 _ hne6 _ _).set9 _ hne6 _ _).set9 _ hne6 _ _, fun b e => ⟨hne6 b e, fun g eg => by have := (hlt7 g eg).2; have := hnw6 b e; omega⟩⟩, l ++ [(some ⟨bl, ol, none⟩, runL S T k, cL)], HLL5.out, (((HL5.out.kept hk6).set9 (by omega) HLB5.out _ _).set9 (by omega) HLB5.out _ _).set9 (by omega) HLB5.out _ _, HMP5.out, HLB5.out⟩
            have := HW25.out
            have := hk6.size
            simp [World.setCell]
            omega
          case measure => simp [intOf]; omega
        · have e : n = k := by omega
          subst e
          have HL := Hid.mk' hL
          have HKR := Hid.mk' hkw
          have HMAP := Hid.mk' hmap
          have HLL := Hid.mk' hll
          clear hkw hbx hsf hL hmap hlb
          rw [hll]
          clear hll
          go_wp2
          go_ret2
          obtain ⟨a6, c6, e6, ht6⟩ := HL.out.trc (by have := HLL.out; omega)
          injection e6 with e61 e62 e63
          subst e61 e63
          rw [HMAP.out, HLL.out] at ht6
          have hcr6 : n ≤ cO := by
            obtain ⟨a9, c9, e9, _, hc9, _⟩ := HL.out.own.lie (by omega)
            injection e9 with _ _ e93
            subst e93
            have := hc9.room
            have := HLL.out
            omega
          exact ⟨aO, cO, rfl, by rw [show runV S T = (List.range n).map (runL S T) by unfold runV; rw [HTL.out]]; exact ht6, hcr6, HK.out.tr HKR.out⟩

end Go.Proofs.YtkbhcpgdhbfhnaaDoor

/-
  THE WALK of GateRuns (made by a program).
-/
namespace Go.Proofs.YtkbhcpgdhbfhnaaDoor
open Go.RowKit Go.Lib Go.Deep
set_option linter.unusedVariables false
set_option linter.unusedSimpArgs false

theorem run_both {X : Sa} {S : St} {w : World} {pa : Option Addr} {n cp : Nat} {T : List (List Nat)} (h : Sat w X S) (hT : Tabb w) (hP : Trc w pa n T) (hn : n ≤ 200 ∨ 4096 < n) : ∃ (z : Int) (A : List (List Nat)), (∀ w', Kept w w' none → Calls Tryd.prog 10 #[siteV X S, .slice pa n cp] w' fun e w2 => ∃ a c, e = .returned (.tuple #[.slice a A.length c, .int .i64 z]) ∧ Trc w2 a A.length A ∧ A.length ≤ c ∧ Kept w' w2 none) ∧ (∀ w', Kept w w' none → Calls Tryd.prog 22 #[siteV X S, .slice pa n cp] w' fun e w2 => ∃ a c, e = .returned (.tuple #[.slice a A.length c, .int .i64 z]) ∧ Trc w2 a A.length A ∧ A.length ≤ c ∧ Kept w' w2 none) := by
  have tn : ∀ w', Trc w' none ([] : List (List Nat)).length [] := fun w' => ⟨rfl, by simp, fun hp => absurd hp (by simp)⟩
  cases hs : siteB S with
  | false =>
    refine ⟨50, [], fun w' q => (grun_no (h.kept q) (hT.kept q) (hP.kept q) hs).mono ?_, fun w' q => (rrun9_no (h.kept q) (hT.kept q) (hP.kept q) hs).mono ?_⟩
    · rintro e w2 ⟨rfl, k⟩; exact ⟨none, 0, rfl, tn _, Nat.le_refl _, k⟩
    · rintro e w2 ⟨rfl, k⟩; exact ⟨none, 0, rfl, tn _, Nat.le_refl _, k⟩
  | true =>
    by_cases hm : 4096 < n
    · refine ⟨4, [], fun w' q => (grun_many (h.kept q) (hT.kept q) (hP.kept q) hs hm).mono ?_, fun w' q => (rrun9_many (h.kept q) (hT.kept q) (hP.kept q) hs hm).mono ?_⟩
      · rintro e w2 ⟨rfl, k⟩; exact ⟨none, 0, rfl, tn _, Nat.le_refl _, k⟩
      · rintro e w2 ⟨rfl, k⟩; exact ⟨none, 0, rfl, tn _, Nat.le_refl _, k⟩
    · by_cases hall : ∀ k, k < n → (tk T k).length = S.groups.length
      · have e1 : (runV S T).length = n := (runV_len S T).trans hP.size
        refine ⟨0, runV S T, fun w' q => (grun_go (h.kept q) (hT.kept q) (hP.kept q) hs (by omega) hall).mono ?_, fun w' q => (rrun9_go (h.kept q) (hT.kept q) (hP.kept q) hs (by omega) hall).mono ?_⟩
        · rintro e w2 ⟨b, rfl, _, ht, k⟩
          exact ⟨_, _, by rw [e1], by rw [e1]; exact ht, by rw [e1]; exact Nat.le_refl _, k⟩
        · rintro e w2 ⟨a', c', rfl, ht, hc, k⟩
          exact ⟨_, _, by rw [e1], by rw [e1]; exact ht, by rw [e1]; exact hc, k⟩
      · have : ∃ k, k < n ∧ (tk T k).length ≠ S.groups.length := Classical.byContradiction (fun hc => hall (fun k hk => Classical.byContradiction (fun he => hc ⟨k, hk, he⟩)))
        obtain ⟨k0, hk0, hb⟩ := this
        refine ⟨90, [], fun w' q => (grun_ask (h.kept q) (hT.kept q) (hP.kept q) hs (by omega) hk0 hb).mono ?_, fun w' q => (rrun9_ask (h.kept q) (hT.kept q) (hP.kept q) hs (by omega) hk0 hb).mono ?_⟩
        · rintro e w2 ⟨rfl, k⟩; exact ⟨none, 0, rfl, tn _, Nat.le_refl _, k⟩
        · rintro e w2 ⟨rfl, k⟩; exact ⟨none, 0, rfl, tn _, Nat.le_refl _, k⟩
set_option maxRecDepth 100000 in
set_option maxHeartbeats 2000000 in
theorem grn_few {X : Sa} {S : St} {w : World} {pa : Option Addr} {n cp : Nat} {T : List (List Nat)} (h : Sat w X S) (hT : Tabb w) (hP : Trc w pa n T) (hn : n ≤ 200) : Calls Tryd.prog 5 #[siteV X S, .slice pa n cp] w fun e w' => e = .returned (.bool true) ∧ Below w.heap.size w w' := by
  obtain ⟨z, A, hb1, hb2⟩ := run_both (cp := cp) h hT hP (by omega)
  have HR1 := Hid.mk' hb1
  have HR2 := Hid.mk' hb2
  clear hb1 hb2
  have h200b : decide ((200 : Int) < (n : Int)) = false := by simp; omega
  have h5000b : decide ((5000 : Int) < (n : Int)) = false := by simp; omega
  have k1 : Kept w (w.alloc (.cells #[.int .i64 S.id, .slice X.g S.groups.length X.gc, .slice X.a S.apart.length X.ac, .slice X.b S.between.length X.bc, .slice X.p S.phases.length X.pc, .slice X.e S.eyes.length X.ec, .int .i64 S.watch, .int .i64 S.feed, .int .i64 S.heal, .int .i64 S.low, .int .i64 S.high, .slice X.l S.plans.length X.lc] 34)) none := Kept.alloc _ _ _ _ _
  have hsb := sbox_alloc h 34
  have hSA := h.kept k1
  have hPA := hP.kept k1
  obtain ⟨W1, hW1⟩ : ∃ W1, w.alloc (.cells #[.int .i64 S.id, .slice X.g S.groups.length X.gc, .slice X.a S.apart.length X.ac, .slice X.b S.between.length X.bc, .slice X.p S.phases.length X.pc, .slice X.e S.eyes.length X.ec, .int .i64 S.watch, .int .i64 S.feed, .int .i64 S.heal, .int .i64 S.low, .int .i64 S.high, .slice X.l S.plans.length X.lc] 34) = W1 := ⟨_, rfl⟩
  rw [hW1] at k1 hsb hSA hPA
  have HSB := Hid.mk' hsb
  have HK := Hid.mk' k1
  have HS := Hid.mk' hSA
  have HP := Hid.mk' hPA
  have hPm := hP.max
  have hK0 := Kept.refl W1 none
  have s0_ : ∀ w', Kept W1 w' none → w'.cell? ⟨w.heap.size, 0, none⟩ = some (.int .i64 S.id) := fun w' q => (HSB.out.kept q).c0
  have s1_ : ∀ w', Kept W1 w' none → w'.cell? ⟨w.heap.size, 1, none⟩ = some (.slice X.g S.groups.length X.gc) := fun w' q => (HSB.out.kept q).c1
  have s2_ : ∀ w', Kept W1 w' none → w'.cell? ⟨w.heap.size, 2, none⟩ = some (.slice X.a S.apart.length X.ac) := fun w' q => (HSB.out.kept q).c2
  have s3_ : ∀ w', Kept W1 w' none → w'.cell? ⟨w.heap.size, 3, none⟩ = some (.slice X.b S.between.length X.bc) := fun w' q => (HSB.out.kept q).c3
  have s4_ : ∀ w', Kept W1 w' none → w'.cell? ⟨w.heap.size, 4, none⟩ = some (.slice X.p S.phases.length X.pc) := fun w' q => (HSB.out.kept q).c4
  have s5_ : ∀ w', Kept W1 w' none → w'.cell? ⟨w.heap.size, 5, none⟩ = some (.slice X.e S.eyes.length X.ec) := fun w' q => (HSB.out.kept q).c5
  have s6_ : ∀ w', Kept W1 w' none → w'.cell? ⟨w.heap.size, 6, none⟩ = some (.int .i64 S.watch) := fun w' q => (HSB.out.kept q).c6
  have s7_ : ∀ w', Kept W1 w' none → w'.cell? ⟨w.heap.size, 7, none⟩ = some (.int .i64 S.feed) := fun w' q => (HSB.out.kept q).c7
  have s8_ : ∀ w', Kept W1 w' none → w'.cell? ⟨w.heap.size, 8, none⟩ = some (.int .i64 S.heal) := fun w' q => (HSB.out.kept q).c8
  have s9_ : ∀ w', Kept W1 w' none → w'.cell? ⟨w.heap.size, 9, none⟩ = some (.int .i64 S.low) := fun w' q => (HSB.out.kept q).c9
  have s10_ : ∀ w', Kept W1 w' none → w'.cell? ⟨w.heap.size, 10, none⟩ = some (.int .i64 S.high) := fun w' q => (HSB.out.kept q).c10
  have s11_ : ∀ w', Kept W1 w' none → w'.cell? ⟨w.heap.size, 11, none⟩ = some (.slice X.l S.plans.length X.lc) := fun w' q => (HSB.out.kept q).c11
  clear h hT hP k1 hsb hSA hPA
  go_enter Tryd.func5, Tryd.ntmps5
  go_wp2_with (first | rw [hW1])
  go_at_call 16
  refine (rgreat_any HS.out).mono ?_
  rintro e wg ⟨gr, rfl, hgr, hkg⟩
  have hKg : Kept W1 wg none := hkg
  clear hgr
  cases gr with
  | true =>
    go_wp2
    go_ret
    exact ⟨rfl, (HK.out.tr hKg).below⟩
  | false =>
  go_wp2
  go_loopw [5] (fun i wr => ∃ k : Nat, k ≤ n ∧ i = .int .i64 k ∧ wr = wg) (fun i _ => n - (intOf i).toNat)
  case atStart => exact ⟨0, by omega, rfl, rfl⟩
  case round =>
    obtain ⟨k, hk, rfl, rfl⟩ := hrel
    by_cases hlt : k < n
    · obtain ⟨bp, op, rfl, hbp, hcp⟩ := HP.out.at_ (by omega)
      obtain ⟨al, cl, kc0, hB0⟩ := hcp k hlt
      have kc := cell_kept0 kc0 hKg
      clear hcp kc0 hB0
      generalize (tk T k).length = m at *
      by_cases hm : (100 : Int) < (m : Int)
      · go_wp2
        go_ret
        exact ⟨rfl, (HK.out.tr hKg).below⟩
      · have hmb : decide ((100 : Int) < (m : Int)) = false := by simp; omega
        clear hm
        go_wp2
        go_roundw
        case rel => exact ⟨k + 1, by omega, by go_num, by first | trivial | rfl⟩
        case measure => simp [intOf]; omega
    · have e : n = k := by omega
      subst e
      go_wp2_with (first
        | (go_at_call 10; refine (HR1.out _ (HK.out.tr hKg)).mono ?_; rintro e w2 ⟨a2, c2, rfl, ht2, hr2, hk2⟩; have hK2 : Kept W1 w2 none := hKg.tr hk2; have HT2 := Hid.mk' ht2; clear ht2)
        | (go_at_call 22; refine (HR2.out _ (HK.out.tr hK2)).mono ?_; rintro e w3 ⟨a3, c3, rfl, ht3, hr3, hk3⟩; have HT3 := Hid.mk' ht3; clear ht3))
      have HK3 := Hid.mk' (hK2.tr hk3)
      have HT2' := Hid.mk' (HT2.out.kept hk3)
      have hAm := HT2.out.max
      clear hk3 hk2 hK2
      go_loopw [10] (fun i wr => ∃ k : Nat, k ≤ A.length ∧ i = .int .i64 k ∧ Kept w3 wr none) (fun i _ => A.length - (intOf i).toNat)
      case atStart => exact ⟨0, by omega, rfl, Kept.refl _ _⟩
      case round =>
        obtain ⟨k, hk, rfl, hkw⟩ := hrel
        by_cases hlt : k < A.length
        · obtain ⟨b2, o2, rfl, _, hc2⟩ := HT2'.out.at_ (by omega)
          obtain ⟨b3, o3, rfl, _, hc3⟩ := HT3.out.at_ (by omega)
          obtain ⟨l2, d2, y2, hB2⟩ := hc2 k hlt
          obtain ⟨l3, d3, y3, hB3⟩ := hc3 k hlt
          have z2 : ∀ w', Kept wr w' none → w'.cell? ⟨b2, o2 + k, none⟩ = some (.slice l2 (tk A k).length d2) := fun w' q => cell_kept0 y2 (hkw.tr q)
          have z3 : ∀ w', Kept wr w' none → w'.cell? ⟨b3, o3 + k, none⟩ = some (.slice l3 (tk A k).length d3) := fun w' q => cell_kept0 y3 (hkw.tr q)
          have HSM : Hid (∀ w', Kept wr w' none → Calls Tryd.prog 20 #[.slice l2 (tk A k).length d2, .slice l3 (tk A k).length d3] w' fun e w2 => e = .returned (.bool true) ∧ Kept w' w2 none) := fun w' q => rsame9_yes ((hB2.kept hkw).kept q) ((hB3.kept hkw).kept q)
          have HKW := Hid.mk' hkw
          have hR0 := Kept.refl wr none
          clear hkw hc2 hc3 y2 y3 hB2 hB3
          generalize (tk A k).length = m at *
          go_wp2
          go_region_held (fun w' => Kept wr w' none)
            ((first | exact hR0 | exact Kept.drew _ _ | assumption | exact Kept.tr (by assumption) (Kept.drew _ _)))
            ((go_at_call 20; refine (HSM.out _ (by assumption)).mono ?_; rintro e wS ⟨rfl, hkS⟩; have hKS : Kept wr wS none := Kept.tr (by assumption) hkS))
          all_goals
          go_wp2
          go_roundw
          case rel => exact ⟨k + 1, by omega, by go_num, HKW.out.tr hKS⟩
          case measure => simp [intOf]; omega
        · have HKW := Hid.mk' hkw
          have e : k = A.length := by omega
          subst e
          clear hkw
          go_wp2
          go_ret
          exact ⟨rfl, (HK.out.tr (HK3.out.tr HKW.out)).below⟩
set_option maxRecDepth 100000 in
set_option maxHeartbeats 2000000 in
theorem grn_many {X : Sa} {S : St} {w : World} {pa : Option Addr} {n cp : Nat} {T : List (List Nat)} (h : Sat w X S) (hT : Tabb w) (hP : Trc w pa n T) (hn : 4096 < n) (hn5 : n ≤ 5000) : Calls Tryd.prog 5 #[siteV X S, .slice pa n cp] w fun e w' => e = .returned (.bool true) ∧ Below w.heap.size w w' := by
  obtain ⟨z, A, hb1, hb2⟩ := run_both (cp := cp) h hT hP (by omega)
  have HR1 := Hid.mk' hb1
  have HR2 := Hid.mk' hb2
  clear hb1 hb2
  have h200b : decide ((200 : Int) < (n : Int)) = true := by simp; omega
  have h4096b : decide ((n : Int) ≤ (4096 : Int)) = false := by simp; omega
  have h5000b : decide ((5000 : Int) < (n : Int)) = false := by simp; omega
  have k1 : Kept w (w.alloc (.cells #[.int .i64 S.id, .slice X.g S.groups.length X.gc, .slice X.a S.apart.length X.ac, .slice X.b S.between.length X.bc, .slice X.p S.phases.length X.pc, .slice X.e S.eyes.length X.ec, .int .i64 S.watch, .int .i64 S.feed, .int .i64 S.heal, .int .i64 S.low, .int .i64 S.high, .slice X.l S.plans.length X.lc] 34)) none := Kept.alloc _ _ _ _ _
  have hsb := sbox_alloc h 34
  have hSA := h.kept k1
  have hPA := hP.kept k1
  obtain ⟨W1, hW1⟩ : ∃ W1, w.alloc (.cells #[.int .i64 S.id, .slice X.g S.groups.length X.gc, .slice X.a S.apart.length X.ac, .slice X.b S.between.length X.bc, .slice X.p S.phases.length X.pc, .slice X.e S.eyes.length X.ec, .int .i64 S.watch, .int .i64 S.feed, .int .i64 S.heal, .int .i64 S.low, .int .i64 S.high, .slice X.l S.plans.length X.lc] 34) = W1 := ⟨_, rfl⟩
  rw [hW1] at k1 hsb hSA hPA
  have HSB := Hid.mk' hsb
  have HK := Hid.mk' k1
  have HS := Hid.mk' hSA
  have HP := Hid.mk' hPA
  have hPm := hP.max
  have hK0 := Kept.refl W1 none
  have s0_ : ∀ w', Kept W1 w' none → w'.cell? ⟨w.heap.size, 0, none⟩ = some (.int .i64 S.id) := fun w' q => (HSB.out.kept q).c0
  have s1_ : ∀ w', Kept W1 w' none → w'.cell? ⟨w.heap.size, 1, none⟩ = some (.slice X.g S.groups.length X.gc) := fun w' q => (HSB.out.kept q).c1
  have s2_ : ∀ w', Kept W1 w' none → w'.cell? ⟨w.heap.size, 2, none⟩ = some (.slice X.a S.apart.length X.ac) := fun w' q => (HSB.out.kept q).c2
  have s3_ : ∀ w', Kept W1 w' none → w'.cell? ⟨w.heap.size, 3, none⟩ = some (.slice X.b S.between.length X.bc) := fun w' q => (HSB.out.kept q).c3
  have s4_ : ∀ w', Kept W1 w' none → w'.cell? ⟨w.heap.size, 4, none⟩ = some (.slice X.p S.phases.length X.pc) := fun w' q => (HSB.out.kept q).c4
  have s5_ : ∀ w', Kept W1 w' none → w'.cell? ⟨w.heap.size, 5, none⟩ = some (.slice X.e S.eyes.length X.ec) := fun w' q => (HSB.out.kept q).c5
  have s6_ : ∀ w', Kept W1 w' none → w'.cell? ⟨w.heap.size, 6, none⟩ = some (.int .i64 S.watch) := fun w' q => (HSB.out.kept q).c6
  have s7_ : ∀ w', Kept W1 w' none → w'.cell? ⟨w.heap.size, 7, none⟩ = some (.int .i64 S.feed) := fun w' q => (HSB.out.kept q).c7
  have s8_ : ∀ w', Kept W1 w' none → w'.cell? ⟨w.heap.size, 8, none⟩ = some (.int .i64 S.heal) := fun w' q => (HSB.out.kept q).c8
  have s9_ : ∀ w', Kept W1 w' none → w'.cell? ⟨w.heap.size, 9, none⟩ = some (.int .i64 S.low) := fun w' q => (HSB.out.kept q).c9
  have s10_ : ∀ w', Kept W1 w' none → w'.cell? ⟨w.heap.size, 10, none⟩ = some (.int .i64 S.high) := fun w' q => (HSB.out.kept q).c10
  have s11_ : ∀ w', Kept W1 w' none → w'.cell? ⟨w.heap.size, 11, none⟩ = some (.slice X.l S.plans.length X.lc) := fun w' q => (HSB.out.kept q).c11
  clear h hT hP k1 hsb hSA hPA
  go_enter Tryd.func5, Tryd.ntmps5
  go_wp2_with (first | rw [hW1])
  go_at_call 16
  refine (rgreat_any HS.out).mono ?_
  rintro e wg ⟨gr, rfl, hgr, hkg⟩
  have hKg : Kept W1 wg none := hkg
  clear hgr
  cases gr with
  | true =>
    go_wp2
    go_ret
    exact ⟨rfl, (HK.out.tr hKg).below⟩
  | false =>
  go_wp2
  go_loopw [5] (fun i wr => ∃ k : Nat, k ≤ n ∧ i = .int .i64 k ∧ wr = wg) (fun i _ => n - (intOf i).toNat)
  case atStart => exact ⟨0, by omega, rfl, rfl⟩
  case round =>
    obtain ⟨k, hk, rfl, rfl⟩ := hrel
    by_cases hlt : k < n
    · obtain ⟨bp, op, rfl, hbp, hcp⟩ := HP.out.at_ (by omega)
      obtain ⟨al, cl, kc0, hB0⟩ := hcp k hlt
      have kc := cell_kept0 kc0 hKg
      clear hcp kc0 hB0
      generalize (tk T k).length = m at *
      by_cases hm : (100 : Int) < (m : Int)
      · go_wp2
        go_ret
        exact ⟨rfl, (HK.out.tr hKg).below⟩
      · have hmb : decide ((100 : Int) < (m : Int)) = false := by simp; omega
        clear hm
        go_wp2
        go_roundw
        case rel => exact ⟨k + 1, by omega, by go_num, by first | trivial | rfl⟩
        case measure => simp [intOf]; omega
    · have e : n = k := by omega
      subst e
      go_wp2_with (first
        | (go_at_call 10; refine (HR1.out _ (HK.out.tr hKg)).mono ?_; rintro e w2 ⟨a2, c2, rfl, ht2, hr2, hk2⟩; have hK2 : Kept W1 w2 none := hKg.tr hk2; have HT2 := Hid.mk' ht2; clear ht2)
        | (go_at_call 22; refine (HR2.out _ (HK.out.tr hK2)).mono ?_; rintro e w3 ⟨a3, c3, rfl, ht3, hr3, hk3⟩; have HT3 := Hid.mk' ht3; clear ht3))
      have HK3 := Hid.mk' (hK2.tr hk3)
      have HT2' := Hid.mk' (HT2.out.kept hk3)
      have hAm := HT2.out.max
      clear hk3 hk2 hK2
      go_loopw [10] (fun i wr => ∃ k : Nat, k ≤ A.length ∧ i = .int .i64 k ∧ Kept w3 wr none) (fun i _ => A.length - (intOf i).toNat)
      case atStart => exact ⟨0, by omega, rfl, Kept.refl _ _⟩
      case round =>
        obtain ⟨k, hk, rfl, hkw⟩ := hrel
        by_cases hlt : k < A.length
        · obtain ⟨b2, o2, rfl, _, hc2⟩ := HT2'.out.at_ (by omega)
          obtain ⟨b3, o3, rfl, _, hc3⟩ := HT3.out.at_ (by omega)
          obtain ⟨l2, d2, y2, hB2⟩ := hc2 k hlt
          obtain ⟨l3, d3, y3, hB3⟩ := hc3 k hlt
          have z2 : ∀ w', Kept wr w' none → w'.cell? ⟨b2, o2 + k, none⟩ = some (.slice l2 (tk A k).length d2) := fun w' q => cell_kept0 y2 (hkw.tr q)
          have z3 : ∀ w', Kept wr w' none → w'.cell? ⟨b3, o3 + k, none⟩ = some (.slice l3 (tk A k).length d3) := fun w' q => cell_kept0 y3 (hkw.tr q)
          have HSM : Hid (∀ w', Kept wr w' none → Calls Tryd.prog 20 #[.slice l2 (tk A k).length d2, .slice l3 (tk A k).length d3] w' fun e w2 => e = .returned (.bool true) ∧ Kept w' w2 none) := fun w' q => rsame9_yes ((hB2.kept hkw).kept q) ((hB3.kept hkw).kept q)
          have HKW := Hid.mk' hkw
          have hR0 := Kept.refl wr none
          clear hkw hc2 hc3 y2 y3 hB2 hB3
          generalize (tk A k).length = m at *
          go_wp2
          go_region_held (fun w' => Kept wr w' none)
            ((first | exact hR0 | exact Kept.drew _ _ | assumption | exact Kept.tr (by assumption) (Kept.drew _ _)))
            ((go_at_call 20; refine (HSM.out _ (by assumption)).mono ?_; rintro e wS ⟨rfl, hkS⟩; have hKS : Kept wr wS none := Kept.tr (by assumption) hkS))
          all_goals
          go_wp2
          go_roundw
          case rel => exact ⟨k + 1, by omega, by go_num, HKW.out.tr hKS⟩
          case measure => simp [intOf]; omega
        · have HKW := Hid.mk' hkw
          have e : k = A.length := by omega
          subst e
          clear hkw
          go_wp2
          go_ret
          exact ⟨rfl, (HK.out.tr (HK3.out.tr HKW.out)).below⟩
set_option maxRecDepth 100000 in
set_option maxHeartbeats 2000000 in
theorem grn_mid {X : Sa} {S : St} {w : World} {pa : Option Addr} {n cp : Nat} {T : List (List Nat)} (h : Sat w X S) (hT : Tabb w) (hP : Trc w pa n T) (hn : 200 < n) (hn4 : n ≤ 4096) : Calls Tryd.prog 5 #[siteV X S, .slice pa n cp] w fun e w' => e = .returned (.bool true) ∧ Below w.heap.size w w' := by
  have h200b : decide ((200 : Int) < (n : Int)) = true := by simp; omega
  have h4096b : decide ((n : Int) ≤ (4096 : Int)) = true := by simp; omega
  have k1 : Kept w (w.alloc (.cells #[.int .i64 S.id, .slice X.g S.groups.length X.gc, .slice X.a S.apart.length X.ac, .slice X.b S.between.length X.bc, .slice X.p S.phases.length X.pc, .slice X.e S.eyes.length X.ec, .int .i64 S.watch, .int .i64 S.feed, .int .i64 S.heal, .int .i64 S.low, .int .i64 S.high, .slice X.l S.plans.length X.lc] 34)) none := Kept.alloc _ _ _ _ _
  have hsb := sbox_alloc h 34
  have hSA := h.kept k1
  have hPA := hP.kept k1
  obtain ⟨W1, hW1⟩ : ∃ W1, w.alloc (.cells #[.int .i64 S.id, .slice X.g S.groups.length X.gc, .slice X.a S.apart.length X.ac, .slice X.b S.between.length X.bc, .slice X.p S.phases.length X.pc, .slice X.e S.eyes.length X.ec, .int .i64 S.watch, .int .i64 S.feed, .int .i64 S.heal, .int .i64 S.low, .int .i64 S.high, .slice X.l S.plans.length X.lc] 34) = W1 := ⟨_, rfl⟩
  rw [hW1] at k1 hsb hSA hPA
  have HSB := Hid.mk' hsb
  have HK := Hid.mk' k1
  have HS := Hid.mk' hSA
  have HP := Hid.mk' hPA
  have hPm := hP.max
  have hK0 := Kept.refl W1 none
  have s0_ : ∀ w', Kept W1 w' none → w'.cell? ⟨w.heap.size, 0, none⟩ = some (.int .i64 S.id) := fun w' q => (HSB.out.kept q).c0
  have s1_ : ∀ w', Kept W1 w' none → w'.cell? ⟨w.heap.size, 1, none⟩ = some (.slice X.g S.groups.length X.gc) := fun w' q => (HSB.out.kept q).c1
  have s2_ : ∀ w', Kept W1 w' none → w'.cell? ⟨w.heap.size, 2, none⟩ = some (.slice X.a S.apart.length X.ac) := fun w' q => (HSB.out.kept q).c2
  have s3_ : ∀ w', Kept W1 w' none → w'.cell? ⟨w.heap.size, 3, none⟩ = some (.slice X.b S.between.length X.bc) := fun w' q => (HSB.out.kept q).c3
  have s4_ : ∀ w', Kept W1 w' none → w'.cell? ⟨w.heap.size, 4, none⟩ = some (.slice X.p S.phases.length X.pc) := fun w' q => (HSB.out.kept q).c4
  have s5_ : ∀ w', Kept W1 w' none → w'.cell? ⟨w.heap.size, 5, none⟩ = some (.slice X.e S.eyes.length X.ec) := fun w' q => (HSB.out.kept q).c5
  have s6_ : ∀ w', Kept W1 w' none → w'.cell? ⟨w.heap.size, 6, none⟩ = some (.int .i64 S.watch) := fun w' q => (HSB.out.kept q).c6
  have s7_ : ∀ w', Kept W1 w' none → w'.cell? ⟨w.heap.size, 7, none⟩ = some (.int .i64 S.feed) := fun w' q => (HSB.out.kept q).c7
  have s8_ : ∀ w', Kept W1 w' none → w'.cell? ⟨w.heap.size, 8, none⟩ = some (.int .i64 S.heal) := fun w' q => (HSB.out.kept q).c8
  have s9_ : ∀ w', Kept W1 w' none → w'.cell? ⟨w.heap.size, 9, none⟩ = some (.int .i64 S.low) := fun w' q => (HSB.out.kept q).c9
  have s10_ : ∀ w', Kept W1 w' none → w'.cell? ⟨w.heap.size, 10, none⟩ = some (.int .i64 S.high) := fun w' q => (HSB.out.kept q).c10
  have s11_ : ∀ w', Kept W1 w' none → w'.cell? ⟨w.heap.size, 11, none⟩ = some (.slice X.l S.plans.length X.lc) := fun w' q => (HSB.out.kept q).c11
  clear h hT hP k1 hsb hSA hPA
  go_enter Tryd.func5, Tryd.ntmps5
  go_wp2_with (first | rw [hW1])
  go_at_call 16
  refine (rgreat_any HS.out).mono ?_
  rintro e wg ⟨gr, rfl, hgr, hkg⟩
  have hKg : Kept W1 wg none := hkg
  clear hgr
  cases gr with
  | true =>
    go_wp2
    go_ret
    exact ⟨rfl, (HK.out.tr hKg).below⟩
  | false =>
  go_wp2
  go_ret
  exact ⟨rfl, (HK.out.tr hKg).below⟩
set_option maxRecDepth 100000 in
set_option maxHeartbeats 2000000 in
theorem grn_over {X : Sa} {S : St} {w : World} {pa : Option Addr} {n cp : Nat} {T : List (List Nat)} (h : Sat w X S) (hT : Tabb w) (hP : Trc w pa n T) (hn : 5000 < n) : Calls Tryd.prog 5 #[siteV X S, .slice pa n cp] w fun e w' => e = .returned (.bool true) ∧ Below w.heap.size w w' := by
  have h200b : decide ((200 : Int) < (n : Int)) = true := by simp; omega
  have h4096b : decide ((n : Int) ≤ (4096 : Int)) = false := by simp; omega
  have h5000b : decide ((5000 : Int) < (n : Int)) = true := by simp; omega
  have k1 : Kept w (w.alloc (.cells #[.int .i64 S.id, .slice X.g S.groups.length X.gc, .slice X.a S.apart.length X.ac, .slice X.b S.between.length X.bc, .slice X.p S.phases.length X.pc, .slice X.e S.eyes.length X.ec, .int .i64 S.watch, .int .i64 S.feed, .int .i64 S.heal, .int .i64 S.low, .int .i64 S.high, .slice X.l S.plans.length X.lc] 34)) none := Kept.alloc _ _ _ _ _
  have hsb := sbox_alloc h 34
  have hSA := h.kept k1
  have hPA := hP.kept k1
  obtain ⟨W1, hW1⟩ : ∃ W1, w.alloc (.cells #[.int .i64 S.id, .slice X.g S.groups.length X.gc, .slice X.a S.apart.length X.ac, .slice X.b S.between.length X.bc, .slice X.p S.phases.length X.pc, .slice X.e S.eyes.length X.ec, .int .i64 S.watch, .int .i64 S.feed, .int .i64 S.heal, .int .i64 S.low, .int .i64 S.high, .slice X.l S.plans.length X.lc] 34) = W1 := ⟨_, rfl⟩
  rw [hW1] at k1 hsb hSA hPA
  have HSB := Hid.mk' hsb
  have HK := Hid.mk' k1
  have HS := Hid.mk' hSA
  have HP := Hid.mk' hPA
  have hPm := hP.max
  have hK0 := Kept.refl W1 none
  have s0_ : ∀ w', Kept W1 w' none → w'.cell? ⟨w.heap.size, 0, none⟩ = some (.int .i64 S.id) := fun w' q => (HSB.out.kept q).c0
  have s1_ : ∀ w', Kept W1 w' none → w'.cell? ⟨w.heap.size, 1, none⟩ = some (.slice X.g S.groups.length X.gc) := fun w' q => (HSB.out.kept q).c1
  have s2_ : ∀ w', Kept W1 w' none → w'.cell? ⟨w.heap.size, 2, none⟩ = some (.slice X.a S.apart.length X.ac) := fun w' q => (HSB.out.kept q).c2
  have s3_ : ∀ w', Kept W1 w' none → w'.cell? ⟨w.heap.size, 3, none⟩ = some (.slice X.b S.between.length X.bc) := fun w' q => (HSB.out.kept q).c3
  have s4_ : ∀ w', Kept W1 w' none → w'.cell? ⟨w.heap.size, 4, none⟩ = some (.slice X.p S.phases.length X.pc) := fun w' q => (HSB.out.kept q).c4
  have s5_ : ∀ w', Kept W1 w' none → w'.cell? ⟨w.heap.size, 5, none⟩ = some (.slice X.e S.eyes.length X.ec) := fun w' q => (HSB.out.kept q).c5
  have s6_ : ∀ w', Kept W1 w' none → w'.cell? ⟨w.heap.size, 6, none⟩ = some (.int .i64 S.watch) := fun w' q => (HSB.out.kept q).c6
  have s7_ : ∀ w', Kept W1 w' none → w'.cell? ⟨w.heap.size, 7, none⟩ = some (.int .i64 S.feed) := fun w' q => (HSB.out.kept q).c7
  have s8_ : ∀ w', Kept W1 w' none → w'.cell? ⟨w.heap.size, 8, none⟩ = some (.int .i64 S.heal) := fun w' q => (HSB.out.kept q).c8
  have s9_ : ∀ w', Kept W1 w' none → w'.cell? ⟨w.heap.size, 9, none⟩ = some (.int .i64 S.low) := fun w' q => (HSB.out.kept q).c9
  have s10_ : ∀ w', Kept W1 w' none → w'.cell? ⟨w.heap.size, 10, none⟩ = some (.int .i64 S.high) := fun w' q => (HSB.out.kept q).c10
  have s11_ : ∀ w', Kept W1 w' none → w'.cell? ⟨w.heap.size, 11, none⟩ = some (.slice X.l S.plans.length X.lc) := fun w' q => (HSB.out.kept q).c11
  clear h hT hP k1 hsb hSA hPA
  go_enter Tryd.func5, Tryd.ntmps5
  go_wp2_with (first | rw [hW1])
  go_at_call 16
  refine (rgreat_any HS.out).mono ?_
  rintro e wg ⟨gr, rfl, hgr, hkg⟩
  have hKg : Kept W1 wg none := hkg
  clear hgr
  cases gr with
  | true =>
    go_wp2
    go_ret
    exact ⟨rfl, (HK.out.tr hKg).below⟩
  | false =>
  go_wp2
  go_ret
  exact ⟨rfl, (HK.out.tr hKg).below⟩
theorem gruns_any {X : Sa} {S : St} {w : World} {pa : Option Addr} {n cp : Nat} {T : List (List Nat)} (h : Sat w X S) (hT : Tabb w) (hP : Trc w pa n T) : Calls Tryd.prog 5 #[siteV X S, .slice pa n cp] w fun e w' => e = .returned (.bool true) ∧ Below w.heap.size w w' := by
  by_cases h1 : n ≤ 200
  · exact grn_few h hT hP h1
  by_cases h2 : n ≤ 4096
  · exact grn_mid h hT hP (by omega) h2
  by_cases h3 : n ≤ 5000
  · exact grn_many h hT hP (by omega) h3
  exact grn_over h hT hP (by omega)

end Go.Proofs.YtkbhcpgdhbfhnaaDoor

