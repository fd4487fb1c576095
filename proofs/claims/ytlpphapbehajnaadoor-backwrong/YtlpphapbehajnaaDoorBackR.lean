/-
  THE DOCUMENT'S OWN lights, Wrong, Next, Latches of layer 10: what the program's answer (made by a program).
-/
import Derived.Test.YtlpphapbehajnaaDoorBackC
import Derived.Test.YtlpphapbehajnaaDoorRefK2
namespace Go.Proofs.YtlpphapbehajnaaDoor
open Go.RowKit Go.Lib Go.Deep
set_option linter.unusedVariables false
set_option linter.unusedSimpArgs false

set_option maxRecDepth 100000 in
set_option maxHeartbeats 2000000 in
theorem rlit_many {w : World} {X : Sa} {S : St} (h : Sat w X S) {a : Option Addr} {n c : Nat} {L : List Nat} (hB : By w a n L) (hn : n ≠ S.groups.length) : Calls Tryd.prog 21 #[siteV X S, .slice a n c] w fun e w' => e = .returned (.int .i64 (litE S.groups.length L)) ∧ Kept w w' none := by
  have HF := Hid.mk' (litE_many (g := S.groups.length) (L := L) (by rw [hB.size]; exact hn))
  have hm := hB.max
  have hnb : ((n : Int) != (S.groups.length : Int)) = true := by simp; omega
  have hkA : Kept w (w.alloc (.cells #[.int .i64 S.id, .slice X.g S.groups.length X.gc, .slice X.a S.apart.length X.ac, .slice X.b S.between.length X.bc, .slice X.p S.phases.length X.pc, .slice X.e S.eyes.length X.ec, .int .i64 S.watch, .int .i64 S.feed, .int .i64 S.heal, .int .i64 S.low, .int .i64 S.high, .slice X.l S.plans.length X.lc] 29)) none := Kept.alloc _ _ _ _ _
  have hsb := sbox_alloc h 29
  have hB1 := hB.kept hkA
  obtain ⟨WA, hWA⟩ : ∃ WA, (w.alloc (.cells #[.int .i64 S.id, .slice X.g S.groups.length X.gc, .slice X.a S.apart.length X.ac, .slice X.b S.between.length X.bc, .slice X.p S.phases.length X.pc, .slice X.e S.eyes.length X.ec, .int .i64 S.watch, .int .i64 S.feed, .int .i64 S.heal, .int .i64 S.low, .int .i64 S.high, .slice X.l S.plans.length X.lc] 29)) = WA := ⟨_, rfl⟩
  rw [hWA] at hkA hsb hB1
  have s1 := hsb.c1
  have hgm : S.groups.length ≤ 9223372036854775807 := by have := h.gk.room; have := h.gk.max; omega
  have HK := Hid.mk' hkA
  have HB := Hid.mk' hB1
  clear hkA hsb hB1 hB h
  clear hn
  go_enter Tryd.func21, Tryd.ntmps21
  go_wp2_with (rw [hWA])
  go_ret
  exact ⟨by rw [HF.out]; rfl, HK.out⟩
set_option maxRecDepth 100000 in
set_option maxHeartbeats 2000000 in
theorem rlit_go {w : World} {X : Sa} {S : St} (h : Sat w X S) {a : Option Addr} {n c : Nat} {L : List Nat} (hB : By w a n L) (hn : n = S.groups.length) : Calls Tryd.prog 21 #[siteV X S, .slice a n c] w fun e w' => e = .returned (.int .i64 (litE S.groups.length L)) ∧ Kept w w' none := by
  have hs := hB.size
  have hm := hB.max
  have HS := Hid.mk' hs
  have HN := Hid.mk' hn
  have hnb : ((n : Int) != (S.groups.length : Int)) = false := by simp; omega
  have HLT := Hid.mk' hB.lt
  have hkA : Kept w (w.alloc (.cells #[.int .i64 S.id, .slice X.g S.groups.length X.gc, .slice X.a S.apart.length X.ac, .slice X.b S.between.length X.bc, .slice X.p S.phases.length X.pc, .slice X.e S.eyes.length X.ec, .int .i64 S.watch, .int .i64 S.feed, .int .i64 S.heal, .int .i64 S.low, .int .i64 S.high, .slice X.l S.plans.length X.lc] 29)) none := Kept.alloc _ _ _ _ _
  have hsb := sbox_alloc h 29
  have hB1 := hB.kept hkA
  obtain ⟨WA, hWA⟩ : ∃ WA, (w.alloc (.cells #[.int .i64 S.id, .slice X.g S.groups.length X.gc, .slice X.a S.apart.length X.ac, .slice X.b S.between.length X.bc, .slice X.p S.phases.length X.pc, .slice X.e S.eyes.length X.ec, .int .i64 S.watch, .int .i64 S.feed, .int .i64 S.heal, .int .i64 S.low, .int .i64 S.high, .slice X.l S.plans.length X.lc] 29)) = WA := ⟨_, rfl⟩
  rw [hWA] at hkA hsb hB1
  have s1 := hsb.c1
  have hgm : S.groups.length ≤ 9223372036854775807 := by have := h.gk.room; have := h.gk.max; omega
  have HK := Hid.mk' hkA
  have HB := Hid.mk' hB1
  clear hkA hsb hB1 hB h
  clear hs hn
  go_enter Tryd.func21, Tryd.ntmps21
  go_wp2_with (rw [hWA])
  go_loop [5] (fun i => ∃ k : Nat, k ≤ n ∧ i = .int .i64 k ∧ ∀ j, j < k → at10 L j ≤ 4) (fun i => n - (intOf i).toNat)
  case atStart => exact ⟨0, by omega, rfl, fun j hj => by omega⟩
  case round =>
    obtain ⟨k, hk, rfl, hno⟩ := hrel
    have HNO := Hid.mk' hno
    clear hno
    by_cases hlt : k < n
    · obtain ⟨b, off, rfl, hb, hc⟩ := HB.out.at_ (by omega)
      have kc := hc k hlt
      rw [show L.getD k 0 = at10 L k from rfl] at kc
      by_cases e : at10 L k ≤ 4
      · have HN2 : Hid (∀ j, j < k + 1 → at10 L j ≤ 4) := fun j hj => by
          by_cases ej : j = k
          · rw [ej]; exact e
          · exact HNO.out j (by omega)
        have e1 : decide ((4 : Int) < (at10 L k : Int)) = false := by simp; omega
        clear hc e
        generalize at10 L k = y at *
        go_wp2
        exact ⟨⟨k + 1, by omega, by go_num, HN2.out⟩, by simp [intOf]; omega⟩
      · have HF := Hid.mk' (litE_arg (g := S.groups.length) (HS.out.trans HN.out) (litB_no (by rw [HS.out]; exact hlt) (Nat.lt_of_not_le e)))
        have e1 : decide ((4 : Int) < (at10 L k : Int)) = true := by simp; omega
        clear hc e
        generalize at10 L k = y at *
        go_wp2
        go_ret
        exact ⟨by rw [HF.out]; rfl, HK.out⟩
    · have HF := Hid.mk' (litE_ok (g := S.groups.length) (HS.out.trans HN.out) (litB_yes (L := L) (fun i hi => HNO.out i (by have := HS.out; omega))))
      go_wp2
      go_ret
      exact ⟨by rw [HF.out]; rfl, HK.out⟩
theorem rlit_any {w : World} {X : Sa} {S : St} (h : Sat w X S) {a : Option Addr} {n c : Nat} {L : List Nat} (hB : By w a n L) : Calls Tryd.prog 21 #[siteV X S, .slice a n c] w fun e w' => e = .returned (.int .i64 (litE S.groups.length L)) ∧ Kept w w' none := by
  by_cases hn : n = S.groups.length
  · exact rlit_go h hB hn
  · exact rlit_many h hB hn
set_option maxRecDepth 100000 in
set_option maxHeartbeats 2000000 in
theorem rwrong_site {X : Sa} {S : St} {w : World} (h : Sat w X S) {a b : Option Addr} {n c m d : Nat} {L M : List Nat} (hA : By w a n L) (hB : By w b m M) (hs : siteB S = false) : Calls Tryd.prog 13 #[siteV X S, .slice a n c, .slice b m d] w fun e w' => e = .returned (.tuple #[.bool false, .int .i64 50]) ∧ Kept w w' none := by
  have hce : checkE S = 50 := by unfold checkE; rw [hs]; rfl
  have hkA : Kept w (w.alloc (.cells #[.int .i64 S.id, .slice X.g S.groups.length X.gc, .slice X.a S.apart.length X.ac, .slice X.b S.between.length X.bc, .slice X.p S.phases.length X.pc, .slice X.e S.eyes.length X.ec, .int .i64 S.watch, .int .i64 S.feed, .int .i64 S.heal, .int .i64 S.low, .int .i64 S.high, .slice X.l S.plans.length X.lc] 29)) none := Kept.alloc _ _ _ _ _
  have hsb := sbox_alloc h 29
  have HS := Hid.mk' (h.kept hkA)
  obtain ⟨WA, hWA⟩ : ∃ WA, (w.alloc (.cells #[.int .i64 S.id, .slice X.g S.groups.length X.gc, .slice X.a S.apart.length X.ac, .slice X.b S.between.length X.bc, .slice X.p S.phases.length X.pc, .slice X.e S.eyes.length X.ec, .int .i64 S.watch, .int .i64 S.feed, .int .i64 S.heal, .int .i64 S.low, .int .i64 S.high, .slice X.l S.plans.length X.lc] 29)) = WA := ⟨_, rfl⟩
  rw [hWA] at hkA hsb HS
  have HK := Hid.mk' hkA
  have HA := Hid.mk' (hA.kept hkA)
  have HB := Hid.mk' (hB.kept hkA)
  clear hA hB
  have HSB := Hid.mk' hsb
  have s0_ : ∀ w', Kept WA w' none → w'.cell? ⟨w.heap.size, 0, none⟩ = some (.int .i64 S.id) := fun w' q => (HSB.out.kept q).c0
  have s1_ : ∀ w', Kept WA w' none → w'.cell? ⟨w.heap.size, 1, none⟩ = some (.slice X.g S.groups.length X.gc) := fun w' q => (HSB.out.kept q).c1
  have s2_ : ∀ w', Kept WA w' none → w'.cell? ⟨w.heap.size, 2, none⟩ = some (.slice X.a S.apart.length X.ac) := fun w' q => (HSB.out.kept q).c2
  have s3_ : ∀ w', Kept WA w' none → w'.cell? ⟨w.heap.size, 3, none⟩ = some (.slice X.b S.between.length X.bc) := fun w' q => (HSB.out.kept q).c3
  have s4_ : ∀ w', Kept WA w' none → w'.cell? ⟨w.heap.size, 4, none⟩ = some (.slice X.p S.phases.length X.pc) := fun w' q => (HSB.out.kept q).c4
  have s5_ : ∀ w', Kept WA w' none → w'.cell? ⟨w.heap.size, 5, none⟩ = some (.slice X.e S.eyes.length X.ec) := fun w' q => (HSB.out.kept q).c5
  have s6_ : ∀ w', Kept WA w' none → w'.cell? ⟨w.heap.size, 6, none⟩ = some (.int .i64 S.watch) := fun w' q => (HSB.out.kept q).c6
  have s7_ : ∀ w', Kept WA w' none → w'.cell? ⟨w.heap.size, 7, none⟩ = some (.int .i64 S.feed) := fun w' q => (HSB.out.kept q).c7
  have s8_ : ∀ w', Kept WA w' none → w'.cell? ⟨w.heap.size, 8, none⟩ = some (.int .i64 S.heal) := fun w' q => (HSB.out.kept q).c8
  have s9_ : ∀ w', Kept WA w' none → w'.cell? ⟨w.heap.size, 9, none⟩ = some (.int .i64 S.low) := fun w' q => (HSB.out.kept q).c9
  have s10_ : ∀ w', Kept WA w' none → w'.cell? ⟨w.heap.size, 10, none⟩ = some (.int .i64 S.high) := fun w' q => (HSB.out.kept q).c10
  have s11_ : ∀ w', Kept WA w' none → w'.cell? ⟨w.heap.size, 11, none⟩ = some (.slice X.l S.plans.length X.lc) := fun w' q => (HSB.out.kept q).c11
  have hK0 := Kept.refl WA none
  clear h hkA hsb
  go_enter Tryd.func13, Tryd.ntmps13
  go_wp2_with (first | rw [hWA] | (go_at_call 20; have hx := rcheck_any HS.out; rw [hce] at hx; refine hx.mono ?_; rintro e wC ⟨rfl, hkC⟩; have hKC : Kept WA wC none := hkC; clear hx))
  go_ret2
  exact ⟨rfl, HK.out.tr hKC⟩
set_option maxRecDepth 100000 in
set_option maxHeartbeats 2000000 in
theorem rwrong_w {X : Sa} {S : St} {w : World} (h : Sat w X S) {a b : Option Addr} {n c m d : Nat} {L M : List Nat} (hA : By w a n L) (hB : By w b m M) (hs : siteB S = true) (z : Int) (hz : litE S.groups.length L = z) (hz0 : z ≠ 0) : Calls Tryd.prog 13 #[siteV X S, .slice a n c, .slice b m d] w fun e w' => e = .returned (.tuple #[.bool false, .int .i64 z]) ∧ Kept w w' none := by
  have hce : checkE S = 0 := by unfold checkE; rw [hs]; rfl
  have HLE := Hid.mk' hz
  have hzb : (z == 0) = false := by simpa using hz0
  have hzc : (z != 0) = true := by simpa using hz0
  clear hz
  have hkA : Kept w (w.alloc (.cells #[.int .i64 S.id, .slice X.g S.groups.length X.gc, .slice X.a S.apart.length X.ac, .slice X.b S.between.length X.bc, .slice X.p S.phases.length X.pc, .slice X.e S.eyes.length X.ec, .int .i64 S.watch, .int .i64 S.feed, .int .i64 S.heal, .int .i64 S.low, .int .i64 S.high, .slice X.l S.plans.length X.lc] 29)) none := Kept.alloc _ _ _ _ _
  have hsb := sbox_alloc h 29
  have HS := Hid.mk' (h.kept hkA)
  obtain ⟨WA, hWA⟩ : ∃ WA, (w.alloc (.cells #[.int .i64 S.id, .slice X.g S.groups.length X.gc, .slice X.a S.apart.length X.ac, .slice X.b S.between.length X.bc, .slice X.p S.phases.length X.pc, .slice X.e S.eyes.length X.ec, .int .i64 S.watch, .int .i64 S.feed, .int .i64 S.heal, .int .i64 S.low, .int .i64 S.high, .slice X.l S.plans.length X.lc] 29)) = WA := ⟨_, rfl⟩
  rw [hWA] at hkA hsb HS
  have HK := Hid.mk' hkA
  have HA := Hid.mk' (hA.kept hkA)
  have HB := Hid.mk' (hB.kept hkA)
  clear hA hB
  have HSB := Hid.mk' hsb
  have s0_ : ∀ w', Kept WA w' none → w'.cell? ⟨w.heap.size, 0, none⟩ = some (.int .i64 S.id) := fun w' q => (HSB.out.kept q).c0
  have s1_ : ∀ w', Kept WA w' none → w'.cell? ⟨w.heap.size, 1, none⟩ = some (.slice X.g S.groups.length X.gc) := fun w' q => (HSB.out.kept q).c1
  have s2_ : ∀ w', Kept WA w' none → w'.cell? ⟨w.heap.size, 2, none⟩ = some (.slice X.a S.apart.length X.ac) := fun w' q => (HSB.out.kept q).c2
  have s3_ : ∀ w', Kept WA w' none → w'.cell? ⟨w.heap.size, 3, none⟩ = some (.slice X.b S.between.length X.bc) := fun w' q => (HSB.out.kept q).c3
  have s4_ : ∀ w', Kept WA w' none → w'.cell? ⟨w.heap.size, 4, none⟩ = some (.slice X.p S.phases.length X.pc) := fun w' q => (HSB.out.kept q).c4
  have s5_ : ∀ w', Kept WA w' none → w'.cell? ⟨w.heap.size, 5, none⟩ = some (.slice X.e S.eyes.length X.ec) := fun w' q => (HSB.out.kept q).c5
  have s6_ : ∀ w', Kept WA w' none → w'.cell? ⟨w.heap.size, 6, none⟩ = some (.int .i64 S.watch) := fun w' q => (HSB.out.kept q).c6
  have s7_ : ∀ w', Kept WA w' none → w'.cell? ⟨w.heap.size, 7, none⟩ = some (.int .i64 S.feed) := fun w' q => (HSB.out.kept q).c7
  have s8_ : ∀ w', Kept WA w' none → w'.cell? ⟨w.heap.size, 8, none⟩ = some (.int .i64 S.heal) := fun w' q => (HSB.out.kept q).c8
  have s9_ : ∀ w', Kept WA w' none → w'.cell? ⟨w.heap.size, 9, none⟩ = some (.int .i64 S.low) := fun w' q => (HSB.out.kept q).c9
  have s10_ : ∀ w', Kept WA w' none → w'.cell? ⟨w.heap.size, 10, none⟩ = some (.int .i64 S.high) := fun w' q => (HSB.out.kept q).c10
  have s11_ : ∀ w', Kept WA w' none → w'.cell? ⟨w.heap.size, 11, none⟩ = some (.slice X.l S.plans.length X.lc) := fun w' q => (HSB.out.kept q).c11
  have hK0 := Kept.refl WA none
  clear h hkA hsb
  go_enter Tryd.func13, Tryd.ntmps13
  go_wp2_with (first | rw [hWA] | (go_at_call 21; have hx := rlit_any (c := c) (HS.out.kept hKC) (HA.out.kept hKC); rw [HLE.out] at hx; refine hx.mono ?_; rintro e wL ⟨rfl, hkL⟩; have hKL : Kept WA wL none := hKC.tr hkL; clear hx) | (go_at_call 20; have hx := rcheck_any HS.out; rw [hce] at hx; refine hx.mono ?_; rintro e wC ⟨rfl, hkC⟩; have hKC : Kept WA wC none := hkC; clear hx))
  go_ret2
  exact ⟨rfl, HK.out.tr hKL⟩
set_option maxRecDepth 100000 in
set_option maxHeartbeats 2000000 in
theorem rwrong_s {X : Sa} {S : St} {w : World} (h : Sat w X S) {a b : Option Addr} {n c m d : Nat} {L M : List Nat} (hA : By w a n L) (hB : By w b m M) (hs : siteB S = true) (hz : litE S.groups.length L = 0) (hm : 0 < m) (y : Int) (hy : litE S.groups.length M = y) (hy0 : y ≠ 0) : Calls Tryd.prog 13 #[siteV X S, .slice a n c, .slice b m d] w fun e w' => e = .returned (.tuple #[.bool false, .int .i64 y]) ∧ Kept w w' none := by
  have hce : checkE S = 0 := by unfold checkE; rw [hs]; rfl
  have HLE := Hid.mk' hz
  have HME := Hid.mk' hy
  have hmb : decide ((0 : Int) < (m : Int)) = true := by simp; omega
  have hyc : (y != 0) = true := by simpa using hy0
  clear hz hy
  have hkA : Kept w (w.alloc (.cells #[.int .i64 S.id, .slice X.g S.groups.length X.gc, .slice X.a S.apart.length X.ac, .slice X.b S.between.length X.bc, .slice X.p S.phases.length X.pc, .slice X.e S.eyes.length X.ec, .int .i64 S.watch, .int .i64 S.feed, .int .i64 S.heal, .int .i64 S.low, .int .i64 S.high, .slice X.l S.plans.length X.lc] 29)) none := Kept.alloc _ _ _ _ _
  have hsb := sbox_alloc h 29
  have HS := Hid.mk' (h.kept hkA)
  obtain ⟨WA, hWA⟩ : ∃ WA, (w.alloc (.cells #[.int .i64 S.id, .slice X.g S.groups.length X.gc, .slice X.a S.apart.length X.ac, .slice X.b S.between.length X.bc, .slice X.p S.phases.length X.pc, .slice X.e S.eyes.length X.ec, .int .i64 S.watch, .int .i64 S.feed, .int .i64 S.heal, .int .i64 S.low, .int .i64 S.high, .slice X.l S.plans.length X.lc] 29)) = WA := ⟨_, rfl⟩
  rw [hWA] at hkA hsb HS
  have HK := Hid.mk' hkA
  have HA := Hid.mk' (hA.kept hkA)
  have HB := Hid.mk' (hB.kept hkA)
  clear hA hB
  have HSB := Hid.mk' hsb
  have s0_ : ∀ w', Kept WA w' none → w'.cell? ⟨w.heap.size, 0, none⟩ = some (.int .i64 S.id) := fun w' q => (HSB.out.kept q).c0
  have s1_ : ∀ w', Kept WA w' none → w'.cell? ⟨w.heap.size, 1, none⟩ = some (.slice X.g S.groups.length X.gc) := fun w' q => (HSB.out.kept q).c1
  have s2_ : ∀ w', Kept WA w' none → w'.cell? ⟨w.heap.size, 2, none⟩ = some (.slice X.a S.apart.length X.ac) := fun w' q => (HSB.out.kept q).c2
  have s3_ : ∀ w', Kept WA w' none → w'.cell? ⟨w.heap.size, 3, none⟩ = some (.slice X.b S.between.length X.bc) := fun w' q => (HSB.out.kept q).c3
  have s4_ : ∀ w', Kept WA w' none → w'.cell? ⟨w.heap.size, 4, none⟩ = some (.slice X.p S.phases.length X.pc) := fun w' q => (HSB.out.kept q).c4
  have s5_ : ∀ w', Kept WA w' none → w'.cell? ⟨w.heap.size, 5, none⟩ = some (.slice X.e S.eyes.length X.ec) := fun w' q => (HSB.out.kept q).c5
  have s6_ : ∀ w', Kept WA w' none → w'.cell? ⟨w.heap.size, 6, none⟩ = some (.int .i64 S.watch) := fun w' q => (HSB.out.kept q).c6
  have s7_ : ∀ w', Kept WA w' none → w'.cell? ⟨w.heap.size, 7, none⟩ = some (.int .i64 S.feed) := fun w' q => (HSB.out.kept q).c7
  have s8_ : ∀ w', Kept WA w' none → w'.cell? ⟨w.heap.size, 8, none⟩ = some (.int .i64 S.heal) := fun w' q => (HSB.out.kept q).c8
  have s9_ : ∀ w', Kept WA w' none → w'.cell? ⟨w.heap.size, 9, none⟩ = some (.int .i64 S.low) := fun w' q => (HSB.out.kept q).c9
  have s10_ : ∀ w', Kept WA w' none → w'.cell? ⟨w.heap.size, 10, none⟩ = some (.int .i64 S.high) := fun w' q => (HSB.out.kept q).c10
  have s11_ : ∀ w', Kept WA w' none → w'.cell? ⟨w.heap.size, 11, none⟩ = some (.slice X.l S.plans.length X.lc) := fun w' q => (HSB.out.kept q).c11
  have hK0 := Kept.refl WA none
  clear h hkA hsb
  go_enter Tryd.func13, Tryd.ntmps13
  go_wp2_with (first | rw [hWA] | (have hgo := hKL; clear hgo; go_at_call 21; have hx := rlit_any (c := d) (HS.out.kept hKL) (HB.out.kept hKL); rw [HME.out] at hx; refine hx.mono ?_; rintro e wM ⟨rfl, hkM⟩; have hKM : Kept WA wM none := hKL.tr hkM; clear hx) | (go_at_call 21; have hx := rlit_any (c := c) (HS.out.kept hKC) (HA.out.kept hKC); rw [HLE.out] at hx; refine hx.mono ?_; rintro e wL ⟨rfl, hkL⟩; have hKL : Kept WA wL none := hKC.tr hkL; clear hx) | (go_at_call 20; have hx := rcheck_any HS.out; rw [hce] at hx; refine hx.mono ?_; rintro e wC ⟨rfl, hkC⟩; have hKC : Kept WA wC none := hkC; clear hx))
  go_ret2
  exact ⟨rfl, HK.out.tr hKM⟩
set_option maxRecDepth 100000 in
set_option maxHeartbeats 2000000 in
theorem rwrong_none {X : Sa} {S : St} {w : World} (h : Sat w X S) {a b : Option Addr} {n c m d : Nat} {L M : List Nat} (hA : By w a n L) (hB : By w b m M) (hs : siteB S = true) (hz : litE S.groups.length L = 0) (hmn : m ≤ n) (hm : m = 0) : Calls Tryd.prog 13 #[siteV X S, .slice a n c, .slice b m d] w fun e w' => e = .returned (.tuple #[.bool (difB L M), .int .i64 0]) ∧ Kept w w' none := by
  have hce : checkE S = 0 := by unfold checkE; rw [hs]; rfl
  have HLE := Hid.mk' hz
  have HAS := Hid.mk' hA.size
  have HBS := Hid.mk' hB.size
  have hAm := hA.max
  have hBm := hB.max
  subst hm
  clear hz
  have hkA : Kept w (w.alloc (.cells #[.int .i64 S.id, .slice X.g S.groups.length X.gc, .slice X.a S.apart.length X.ac, .slice X.b S.between.length X.bc, .slice X.p S.phases.length X.pc, .slice X.e S.eyes.length X.ec, .int .i64 S.watch, .int .i64 S.feed, .int .i64 S.heal, .int .i64 S.low, .int .i64 S.high, .slice X.l S.plans.length X.lc] 29)) none := Kept.alloc _ _ _ _ _
  have hsb := sbox_alloc h 29
  have HS := Hid.mk' (h.kept hkA)
  obtain ⟨WA, hWA⟩ : ∃ WA, (w.alloc (.cells #[.int .i64 S.id, .slice X.g S.groups.length X.gc, .slice X.a S.apart.length X.ac, .slice X.b S.between.length X.bc, .slice X.p S.phases.length X.pc, .slice X.e S.eyes.length X.ec, .int .i64 S.watch, .int .i64 S.feed, .int .i64 S.heal, .int .i64 S.low, .int .i64 S.high, .slice X.l S.plans.length X.lc] 29)) = WA := ⟨_, rfl⟩
  rw [hWA] at hkA hsb HS
  have HK := Hid.mk' hkA
  have HA := Hid.mk' (hA.kept hkA)
  have HB := Hid.mk' (hB.kept hkA)
  clear hA hB
  have HSB := Hid.mk' hsb
  have s0_ : ∀ w', Kept WA w' none → w'.cell? ⟨w.heap.size, 0, none⟩ = some (.int .i64 S.id) := fun w' q => (HSB.out.kept q).c0
  have s1_ : ∀ w', Kept WA w' none → w'.cell? ⟨w.heap.size, 1, none⟩ = some (.slice X.g S.groups.length X.gc) := fun w' q => (HSB.out.kept q).c1
  have s2_ : ∀ w', Kept WA w' none → w'.cell? ⟨w.heap.size, 2, none⟩ = some (.slice X.a S.apart.length X.ac) := fun w' q => (HSB.out.kept q).c2
  have s3_ : ∀ w', Kept WA w' none → w'.cell? ⟨w.heap.size, 3, none⟩ = some (.slice X.b S.between.length X.bc) := fun w' q => (HSB.out.kept q).c3
  have s4_ : ∀ w', Kept WA w' none → w'.cell? ⟨w.heap.size, 4, none⟩ = some (.slice X.p S.phases.length X.pc) := fun w' q => (HSB.out.kept q).c4
  have s5_ : ∀ w', Kept WA w' none → w'.cell? ⟨w.heap.size, 5, none⟩ = some (.slice X.e S.eyes.length X.ec) := fun w' q => (HSB.out.kept q).c5
  have s6_ : ∀ w', Kept WA w' none → w'.cell? ⟨w.heap.size, 6, none⟩ = some (.int .i64 S.watch) := fun w' q => (HSB.out.kept q).c6
  have s7_ : ∀ w', Kept WA w' none → w'.cell? ⟨w.heap.size, 7, none⟩ = some (.int .i64 S.feed) := fun w' q => (HSB.out.kept q).c7
  have s8_ : ∀ w', Kept WA w' none → w'.cell? ⟨w.heap.size, 8, none⟩ = some (.int .i64 S.heal) := fun w' q => (HSB.out.kept q).c8
  have s9_ : ∀ w', Kept WA w' none → w'.cell? ⟨w.heap.size, 9, none⟩ = some (.int .i64 S.low) := fun w' q => (HSB.out.kept q).c9
  have s10_ : ∀ w', Kept WA w' none → w'.cell? ⟨w.heap.size, 10, none⟩ = some (.int .i64 S.high) := fun w' q => (HSB.out.kept q).c10
  have s11_ : ∀ w', Kept WA w' none → w'.cell? ⟨w.heap.size, 11, none⟩ = some (.slice X.l S.plans.length X.lc) := fun w' q => (HSB.out.kept q).c11
  have hK0 := Kept.refl WA none
  clear h hkA hsb
  go_enter Tryd.func13, Tryd.ntmps13
  go_wp2_with (first | rw [hWA] | (go_at_call 21; have hx := rlit_any (c := c) (HS.out.kept hKC) (HA.out.kept hKC); rw [HLE.out] at hx; refine hx.mono ?_; rintro e wL ⟨rfl, hkL⟩; have hKL : Kept WA wL none := hKC.tr hkL; clear hx) | (go_at_call 20; have hx := rcheck_any HS.out; rw [hce] at hx; refine hx.mono ?_; rintro e wC ⟨rfl, hkC⟩; have hKC : Kept WA wC none := hkC; clear hx))
  go_loopw [9] (fun i wr => ∃ k : Nat, k ≤ 0 ∧ i = .int .i64 k ∧ Kept WA wr none ∧ ∀ j, j < k → at10 L j = at10 M j) (fun i _ => 0 - (intOf i).toNat)
  case atStart => exact ⟨0, by omega, rfl, hKL, fun j hj => by omega⟩
  case round =>
    obtain ⟨k, hk, rfl, hkw, hno⟩ := hrel
    have HKW := Hid.mk' hkw
    have HNO := Hid.mk' hno
    clear hno
    have hk0 : k = 0 := by omega
    subst hk0
    have HF := Hid.mk' (difB_no (L := L) (M := M) (fun i hi => HNO.out i (by have := HBS.out; omega)))
    go_wp2
    go_ret2
    exact ⟨by rw [HF.out]; rfl, HK.out.tr HKW.out⟩
set_option maxRecDepth 100000 in
set_option maxHeartbeats 2000000 in
theorem rwrong_some {X : Sa} {S : St} {w : World} (h : Sat w X S) {a b : Option Addr} {n c m d : Nat} {L M : List Nat} (hA : By w a n L) (hB : By w b m M) (hs : siteB S = true) (hz : litE S.groups.length L = 0) (hmn : m ≤ n) (hm : 0 < m) (hy : litE S.groups.length M = 0) : Calls Tryd.prog 13 #[siteV X S, .slice a n c, .slice b m d] w fun e w' => e = .returned (.tuple #[.bool (difB L M), .int .i64 0]) ∧ Kept w w' none := by
  have hce : checkE S = 0 := by unfold checkE; rw [hs]; rfl
  have HLE := Hid.mk' hz
  have HAS := Hid.mk' hA.size
  have HBS := Hid.mk' hB.size
  have hAm := hA.max
  have hBm := hB.max
  have HME := Hid.mk' hy
  have hmb : decide ((0 : Int) < (m : Int)) = true := by simp; omega
  clear hy
  clear hz
  have hkA : Kept w (w.alloc (.cells #[.int .i64 S.id, .slice X.g S.groups.length X.gc, .slice X.a S.apart.length X.ac, .slice X.b S.between.length X.bc, .slice X.p S.phases.length X.pc, .slice X.e S.eyes.length X.ec, .int .i64 S.watch, .int .i64 S.feed, .int .i64 S.heal, .int .i64 S.low, .int .i64 S.high, .slice X.l S.plans.length X.lc] 29)) none := Kept.alloc _ _ _ _ _
  have hsb := sbox_alloc h 29
  have HS := Hid.mk' (h.kept hkA)
  obtain ⟨WA, hWA⟩ : ∃ WA, (w.alloc (.cells #[.int .i64 S.id, .slice X.g S.groups.length X.gc, .slice X.a S.apart.length X.ac, .slice X.b S.between.length X.bc, .slice X.p S.phases.length X.pc, .slice X.e S.eyes.length X.ec, .int .i64 S.watch, .int .i64 S.feed, .int .i64 S.heal, .int .i64 S.low, .int .i64 S.high, .slice X.l S.plans.length X.lc] 29)) = WA := ⟨_, rfl⟩
  rw [hWA] at hkA hsb HS
  have HK := Hid.mk' hkA
  have HA := Hid.mk' (hA.kept hkA)
  have HB := Hid.mk' (hB.kept hkA)
  clear hA hB
  have HSB := Hid.mk' hsb
  have s0_ : ∀ w', Kept WA w' none → w'.cell? ⟨w.heap.size, 0, none⟩ = some (.int .i64 S.id) := fun w' q => (HSB.out.kept q).c0
  have s1_ : ∀ w', Kept WA w' none → w'.cell? ⟨w.heap.size, 1, none⟩ = some (.slice X.g S.groups.length X.gc) := fun w' q => (HSB.out.kept q).c1
  have s2_ : ∀ w', Kept WA w' none → w'.cell? ⟨w.heap.size, 2, none⟩ = some (.slice X.a S.apart.length X.ac) := fun w' q => (HSB.out.kept q).c2
  have s3_ : ∀ w', Kept WA w' none → w'.cell? ⟨w.heap.size, 3, none⟩ = some (.slice X.b S.between.length X.bc) := fun w' q => (HSB.out.kept q).c3
  have s4_ : ∀ w', Kept WA w' none → w'.cell? ⟨w.heap.size, 4, none⟩ = some (.slice X.p S.phases.length X.pc) := fun w' q => (HSB.out.kept q).c4
  have s5_ : ∀ w', Kept WA w' none → w'.cell? ⟨w.heap.size, 5, none⟩ = some (.slice X.e S.eyes.length X.ec) := fun w' q => (HSB.out.kept q).c5
  have s6_ : ∀ w', Kept WA w' none → w'.cell? ⟨w.heap.size, 6, none⟩ = some (.int .i64 S.watch) := fun w' q => (HSB.out.kept q).c6
  have s7_ : ∀ w', Kept WA w' none → w'.cell? ⟨w.heap.size, 7, none⟩ = some (.int .i64 S.feed) := fun w' q => (HSB.out.kept q).c7
  have s8_ : ∀ w', Kept WA w' none → w'.cell? ⟨w.heap.size, 8, none⟩ = some (.int .i64 S.heal) := fun w' q => (HSB.out.kept q).c8
  have s9_ : ∀ w', Kept WA w' none → w'.cell? ⟨w.heap.size, 9, none⟩ = some (.int .i64 S.low) := fun w' q => (HSB.out.kept q).c9
  have s10_ : ∀ w', Kept WA w' none → w'.cell? ⟨w.heap.size, 10, none⟩ = some (.int .i64 S.high) := fun w' q => (HSB.out.kept q).c10
  have s11_ : ∀ w', Kept WA w' none → w'.cell? ⟨w.heap.size, 11, none⟩ = some (.slice X.l S.plans.length X.lc) := fun w' q => (HSB.out.kept q).c11
  have hK0 := Kept.refl WA none
  clear h hkA hsb
  go_enter Tryd.func13, Tryd.ntmps13
  go_wp2_with (first | rw [hWA] | (have hgo := hKL; clear hgo; go_at_call 21; have hx := rlit_any (c := d) (HS.out.kept hKL) (HB.out.kept hKL); rw [HME.out] at hx; refine hx.mono ?_; rintro e wM ⟨rfl, hkM⟩; have hKM : Kept WA wM none := hKL.tr hkM; clear hx) | (go_at_call 21; have hx := rlit_any (c := c) (HS.out.kept hKC) (HA.out.kept hKC); rw [HLE.out] at hx; refine hx.mono ?_; rintro e wL ⟨rfl, hkL⟩; have hKL : Kept WA wL none := hKC.tr hkL; clear hx) | (go_at_call 20; have hx := rcheck_any HS.out; rw [hce] at hx; refine hx.mono ?_; rintro e wC ⟨rfl, hkC⟩; have hKC : Kept WA wC none := hkC; clear hx))
  go_loopw [9] (fun i wr => ∃ k : Nat, k ≤ m ∧ i = .int .i64 k ∧ Kept WA wr none ∧ ∀ j, j < k → at10 L j = at10 M j) (fun i _ => m - (intOf i).toNat)
  case atStart => exact ⟨0, by omega, rfl, hKM, fun j hj => by omega⟩
  case round =>
    obtain ⟨k, hk, rfl, hkw, hno⟩ := hrel
    have HKW := Hid.mk' hkw
    have HNO := Hid.mk' hno
    clear hno
    by_cases hlt : k < m
    · obtain ⟨b1, o1, rfl, _, hc1⟩ := (HA.out.kept hkw).at_ (by omega)
      obtain ⟨b2, o2, rfl, _, hc2⟩ := (HB.out.kept hkw).at_ (by omega)
      have y1 := hc1 k (by omega)
      have y2 := hc2 k hlt
      rw [show L.getD k 0 = at10 L k from rfl] at y1
      rw [show M.getD k 0 = at10 M k from rfl] at y2
      clear hc1 hc2
      by_cases e : at10 L k = at10 M k
      · have HN2 : Hid (∀ j, j < k + 1 → at10 L j = at10 M j) := fun j hj => by
          by_cases ej : j = k
          · rw [ej]; exact e
          · exact HNO.out j (by omega)
        rw [e] at y1
        clear e
        generalize at10 M k = y at *
        go_wp2
        go_quiet (fail)
        go_wp2
        go_roundw
        case rel => exact ⟨k + 1, by omega, by go_num, HKW.out.tr (Kept.drewN _ _ _), HN2.out⟩
        case measure => simp [intOf]; omega
      · have HF := Hid.mk' (difB_yes (L := L) (M := M) (by rw [HBS.out]; exact hlt) e)
        have e1 : ((at10 M k : Int) != (at10 L k : Int)) = true := by simp; omega
        clear e
        generalize at10 M k = y at *
        generalize at10 L k = x at *
        go_wp2
        go_quiet (fail)
        go_wp2
        go_ret2
        exact ⟨by rw [HF.out]; rfl, HK.out.tr (HKW.out.tr (Kept.drewN _ _ _))⟩
    · have HF := Hid.mk' (difB_no (L := L) (M := M) (fun i hi => HNO.out i (by have := HBS.out; omega)))
      go_wp2
      go_ret2
      exact ⟨by rw [HF.out]; rfl, HK.out.tr HKW.out⟩
theorem rwrong_any {X : Sa} {S : St} {w : World} (h : Sat w X S) {a b : Option Addr} {n c m d : Nat} {L M : List Nat} (hA : By w a n L) (hB : By w b m M) : Calls Tryd.prog 13 #[siteV X S, .slice a n c, .slice b m d] w fun e w' => e = .returned (.tuple #[.bool (wrongV S L M), .int .i64 (wrongE S L M)]) ∧ Kept w w' none := by
  unfold wrongV wrongE
  have hMl := hB.size
  have hLl := hA.size
  cases hs : siteB S with
  | false => exact rwrong_site h hA hB hs
  | true =>
    rw [if_pos rfl]
    by_cases hz : litE S.groups.length L = 0
    · by_cases hm : m = 0
      · have hE : bothE S.groups.length L M = 0 := by unfold bothE; rw [if_pos (.inr (by omega)), hz]
        rw [hE, decide_eq_true rfl, Bool.true_and]
        exact rwrong_none h hA hB hs hz (by omega) hm
      · by_cases hy : litE S.groups.length M = 0
        · have hE : bothE S.groups.length L M = 0 := by unfold bothE; rw [if_neg (by simp [hz]; intro e; rw [e] at hMl; exact hm hMl.symm), hy]
          rw [hE, decide_eq_true rfl, Bool.true_and]
          exact rwrong_some h hA hB hs hz (by have := (bothE_len hE).2; omega) (by omega) hy
        · have hE : bothE S.groups.length L M = litE S.groups.length M := by unfold bothE; rw [if_neg (by simp [hz]; intro e; rw [e] at hMl; exact hm hMl.symm)]
          rw [hE, decide_eq_false hy, Bool.false_and]
          exact rwrong_s h hA hB hs hz (by omega) _ rfl hy
    · have hE : bothE S.groups.length L M = litE S.groups.length L := by unfold bothE; rw [if_pos (.inl hz)]
      rw [hE, decide_eq_false hz, Bool.false_and]
      exact rwrong_w h hA hB hs _ rfl hz
set_option maxRecDepth 100000 in
set_option maxHeartbeats 2000000 in
theorem rnext_low {X : Sa} {S : St} {w : World} (h : Sat w X S) {a b : Option Addr} {n c m d : Nat} {L M : List Nat} (hA : By w a n L) (hB : By w b m M) (k : Int) (hs : siteB S = true) (hk : k < 0) : Calls Tryd.prog 14 #[siteV X S, .int .i64 k, .slice a n c, .slice b m d] w fun e w' => e = .returned (.tuple #[.int .i64 0, .int .i64 2]) ∧ Kept w w' none := by
  have hce : checkE S = 0 := by unfold checkE; rw [hs]; rfl
  have h1 : decide (k < 0) = true := by simpa using hk
  have hkA : Kept w (w.alloc (.cells #[.int .i64 S.id, .slice X.g S.groups.length X.gc, .slice X.a S.apart.length X.ac, .slice X.b S.between.length X.bc, .slice X.p S.phases.length X.pc, .slice X.e S.eyes.length X.ec, .int .i64 S.watch, .int .i64 S.feed, .int .i64 S.heal, .int .i64 S.low, .int .i64 S.high, .slice X.l S.plans.length X.lc] 29)) none := Kept.alloc _ _ _ _ _
  have hsb := sbox_alloc h 29
  have HS := Hid.mk' (h.kept hkA)
  obtain ⟨WA, hWA⟩ : ∃ WA, (w.alloc (.cells #[.int .i64 S.id, .slice X.g S.groups.length X.gc, .slice X.a S.apart.length X.ac, .slice X.b S.between.length X.bc, .slice X.p S.phases.length X.pc, .slice X.e S.eyes.length X.ec, .int .i64 S.watch, .int .i64 S.feed, .int .i64 S.heal, .int .i64 S.low, .int .i64 S.high, .slice X.l S.plans.length X.lc] 29)) = WA := ⟨_, rfl⟩
  rw [hWA] at hkA hsb HS
  have HK := Hid.mk' hkA
  have HA := Hid.mk' (hA.kept hkA)
  have HB := Hid.mk' (hB.kept hkA)
  clear hA hB
  have HSB := Hid.mk' hsb
  have s0_ : ∀ w', Kept WA w' none → w'.cell? ⟨w.heap.size, 0, none⟩ = some (.int .i64 S.id) := fun w' q => (HSB.out.kept q).c0
  have s1_ : ∀ w', Kept WA w' none → w'.cell? ⟨w.heap.size, 1, none⟩ = some (.slice X.g S.groups.length X.gc) := fun w' q => (HSB.out.kept q).c1
  have s2_ : ∀ w', Kept WA w' none → w'.cell? ⟨w.heap.size, 2, none⟩ = some (.slice X.a S.apart.length X.ac) := fun w' q => (HSB.out.kept q).c2
  have s3_ : ∀ w', Kept WA w' none → w'.cell? ⟨w.heap.size, 3, none⟩ = some (.slice X.b S.between.length X.bc) := fun w' q => (HSB.out.kept q).c3
  have s4_ : ∀ w', Kept WA w' none → w'.cell? ⟨w.heap.size, 4, none⟩ = some (.slice X.p S.phases.length X.pc) := fun w' q => (HSB.out.kept q).c4
  have s5_ : ∀ w', Kept WA w' none → w'.cell? ⟨w.heap.size, 5, none⟩ = some (.slice X.e S.eyes.length X.ec) := fun w' q => (HSB.out.kept q).c5
  have s6_ : ∀ w', Kept WA w' none → w'.cell? ⟨w.heap.size, 6, none⟩ = some (.int .i64 S.watch) := fun w' q => (HSB.out.kept q).c6
  have s7_ : ∀ w', Kept WA w' none → w'.cell? ⟨w.heap.size, 7, none⟩ = some (.int .i64 S.feed) := fun w' q => (HSB.out.kept q).c7
  have s8_ : ∀ w', Kept WA w' none → w'.cell? ⟨w.heap.size, 8, none⟩ = some (.int .i64 S.heal) := fun w' q => (HSB.out.kept q).c8
  have s9_ : ∀ w', Kept WA w' none → w'.cell? ⟨w.heap.size, 9, none⟩ = some (.int .i64 S.low) := fun w' q => (HSB.out.kept q).c9
  have s10_ : ∀ w', Kept WA w' none → w'.cell? ⟨w.heap.size, 10, none⟩ = some (.int .i64 S.high) := fun w' q => (HSB.out.kept q).c10
  have s11_ : ∀ w', Kept WA w' none → w'.cell? ⟨w.heap.size, 11, none⟩ = some (.slice X.l S.plans.length X.lc) := fun w' q => (HSB.out.kept q).c11
  have hK0 := Kept.refl WA none
  clear h hkA hsb
  go_enter Tryd.func14, Tryd.ntmps14
  go_wp2_with (first | rw [hWA] | (go_at_call 20; have hx := rcheck_any HS.out; rw [hce] at hx; refine hx.mono ?_; rintro e wC ⟨rfl, hkC⟩; have hKC : Kept WA wC none := hkC; clear hx))
  go_ret2
  exact ⟨rfl, HK.out.tr hKC⟩
set_option maxRecDepth 100000 in
set_option maxHeartbeats 2000000 in
theorem rnext_high {X : Sa} {S : St} {w : World} (h : Sat w X S) {a b : Option Addr} {n c m d : Nat} {L M : List Nat} (hA : By w a n L) (hB : By w b m M) (k : Int) (hs : siteB S = true) (hk : 1048576 < k) : Calls Tryd.prog 14 #[siteV X S, .int .i64 k, .slice a n c, .slice b m d] w fun e w' => e = .returned (.tuple #[.int .i64 0, .int .i64 2]) ∧ Kept w w' none := by
  have hce : checkE S = 0 := by unfold checkE; rw [hs]; rfl
  have h1 : decide (k < 0) = false := by simp; omega
  have h2 : decide (1048576 < k) = true := by simpa using hk
  have hkA : Kept w (w.alloc (.cells #[.int .i64 S.id, .slice X.g S.groups.length X.gc, .slice X.a S.apart.length X.ac, .slice X.b S.between.length X.bc, .slice X.p S.phases.length X.pc, .slice X.e S.eyes.length X.ec, .int .i64 S.watch, .int .i64 S.feed, .int .i64 S.heal, .int .i64 S.low, .int .i64 S.high, .slice X.l S.plans.length X.lc] 29)) none := Kept.alloc _ _ _ _ _
  have hsb := sbox_alloc h 29
  have HS := Hid.mk' (h.kept hkA)
  obtain ⟨WA, hWA⟩ : ∃ WA, (w.alloc (.cells #[.int .i64 S.id, .slice X.g S.groups.length X.gc, .slice X.a S.apart.length X.ac, .slice X.b S.between.length X.bc, .slice X.p S.phases.length X.pc, .slice X.e S.eyes.length X.ec, .int .i64 S.watch, .int .i64 S.feed, .int .i64 S.heal, .int .i64 S.low, .int .i64 S.high, .slice X.l S.plans.length X.lc] 29)) = WA := ⟨_, rfl⟩
  rw [hWA] at hkA hsb HS
  have HK := Hid.mk' hkA
  have HA := Hid.mk' (hA.kept hkA)
  have HB := Hid.mk' (hB.kept hkA)
  clear hA hB
  have HSB := Hid.mk' hsb
  have s0_ : ∀ w', Kept WA w' none → w'.cell? ⟨w.heap.size, 0, none⟩ = some (.int .i64 S.id) := fun w' q => (HSB.out.kept q).c0
  have s1_ : ∀ w', Kept WA w' none → w'.cell? ⟨w.heap.size, 1, none⟩ = some (.slice X.g S.groups.length X.gc) := fun w' q => (HSB.out.kept q).c1
  have s2_ : ∀ w', Kept WA w' none → w'.cell? ⟨w.heap.size, 2, none⟩ = some (.slice X.a S.apart.length X.ac) := fun w' q => (HSB.out.kept q).c2
  have s3_ : ∀ w', Kept WA w' none → w'.cell? ⟨w.heap.size, 3, none⟩ = some (.slice X.b S.between.length X.bc) := fun w' q => (HSB.out.kept q).c3
  have s4_ : ∀ w', Kept WA w' none → w'.cell? ⟨w.heap.size, 4, none⟩ = some (.slice X.p S.phases.length X.pc) := fun w' q => (HSB.out.kept q).c4
  have s5_ : ∀ w', Kept WA w' none → w'.cell? ⟨w.heap.size, 5, none⟩ = some (.slice X.e S.eyes.length X.ec) := fun w' q => (HSB.out.kept q).c5
  have s6_ : ∀ w', Kept WA w' none → w'.cell? ⟨w.heap.size, 6, none⟩ = some (.int .i64 S.watch) := fun w' q => (HSB.out.kept q).c6
  have s7_ : ∀ w', Kept WA w' none → w'.cell? ⟨w.heap.size, 7, none⟩ = some (.int .i64 S.feed) := fun w' q => (HSB.out.kept q).c7
  have s8_ : ∀ w', Kept WA w' none → w'.cell? ⟨w.heap.size, 8, none⟩ = some (.int .i64 S.heal) := fun w' q => (HSB.out.kept q).c8
  have s9_ : ∀ w', Kept WA w' none → w'.cell? ⟨w.heap.size, 9, none⟩ = some (.int .i64 S.low) := fun w' q => (HSB.out.kept q).c9
  have s10_ : ∀ w', Kept WA w' none → w'.cell? ⟨w.heap.size, 10, none⟩ = some (.int .i64 S.high) := fun w' q => (HSB.out.kept q).c10
  have s11_ : ∀ w', Kept WA w' none → w'.cell? ⟨w.heap.size, 11, none⟩ = some (.slice X.l S.plans.length X.lc) := fun w' q => (HSB.out.kept q).c11
  have hK0 := Kept.refl WA none
  clear h hkA hsb
  go_enter Tryd.func14, Tryd.ntmps14
  go_wp2_with (first | rw [hWA] | (go_at_call 20; have hx := rcheck_any HS.out; rw [hce] at hx; refine hx.mono ?_; rintro e wC ⟨rfl, hkC⟩; have hKC : Kept WA wC none := hkC; clear hx))
  go_ret2
  exact ⟨rfl, HK.out.tr hKC⟩
set_option maxRecDepth 100000 in
set_option maxHeartbeats 2000000 in
theorem rnext_site {X : Sa} {S : St} {w : World} (h : Sat w X S) {a b : Option Addr} {n c m d : Nat} {L M : List Nat} (hA : By w a n L) (hB : By w b m M) (k : Int) (hs : siteB S = false) : Calls Tryd.prog 14 #[siteV X S, .int .i64 k, .slice a n c, .slice b m d] w fun e w' => e = .returned (.tuple #[.int .i64 0, .int .i64 50]) ∧ Kept w w' none := by
  have hce : checkE S = 50 := by unfold checkE; rw [hs]; rfl
  have hwe : wrongE S L M = 50 := by unfold wrongE; rw [hs]; rfl
  have hwv : wrongV S L M = false := by unfold wrongV; rw [hwe]; rfl
  have HWE := Hid.mk' hwe
  have HWV := Hid.mk' hwv
  clear hwe hwv
  have hkA : Kept w (w.alloc (.cells #[.int .i64 S.id, .slice X.g S.groups.length X.gc, .slice X.a S.apart.length X.ac, .slice X.b S.between.length X.bc, .slice X.p S.phases.length X.pc, .slice X.e S.eyes.length X.ec, .int .i64 S.watch, .int .i64 S.feed, .int .i64 S.heal, .int .i64 S.low, .int .i64 S.high, .slice X.l S.plans.length X.lc] 29)) none := Kept.alloc _ _ _ _ _
  have hsb := sbox_alloc h 29
  have HS := Hid.mk' (h.kept hkA)
  obtain ⟨WA, hWA⟩ : ∃ WA, (w.alloc (.cells #[.int .i64 S.id, .slice X.g S.groups.length X.gc, .slice X.a S.apart.length X.ac, .slice X.b S.between.length X.bc, .slice X.p S.phases.length X.pc, .slice X.e S.eyes.length X.ec, .int .i64 S.watch, .int .i64 S.feed, .int .i64 S.heal, .int .i64 S.low, .int .i64 S.high, .slice X.l S.plans.length X.lc] 29)) = WA := ⟨_, rfl⟩
  rw [hWA] at hkA hsb HS
  have HK := Hid.mk' hkA
  have HA := Hid.mk' (hA.kept hkA)
  have HB := Hid.mk' (hB.kept hkA)
  clear hA hB
  have HSB := Hid.mk' hsb
  have s0_ : ∀ w', Kept WA w' none → w'.cell? ⟨w.heap.size, 0, none⟩ = some (.int .i64 S.id) := fun w' q => (HSB.out.kept q).c0
  have s1_ : ∀ w', Kept WA w' none → w'.cell? ⟨w.heap.size, 1, none⟩ = some (.slice X.g S.groups.length X.gc) := fun w' q => (HSB.out.kept q).c1
  have s2_ : ∀ w', Kept WA w' none → w'.cell? ⟨w.heap.size, 2, none⟩ = some (.slice X.a S.apart.length X.ac) := fun w' q => (HSB.out.kept q).c2
  have s3_ : ∀ w', Kept WA w' none → w'.cell? ⟨w.heap.size, 3, none⟩ = some (.slice X.b S.between.length X.bc) := fun w' q => (HSB.out.kept q).c3
  have s4_ : ∀ w', Kept WA w' none → w'.cell? ⟨w.heap.size, 4, none⟩ = some (.slice X.p S.phases.length X.pc) := fun w' q => (HSB.out.kept q).c4
  have s5_ : ∀ w', Kept WA w' none → w'.cell? ⟨w.heap.size, 5, none⟩ = some (.slice X.e S.eyes.length X.ec) := fun w' q => (HSB.out.kept q).c5
  have s6_ : ∀ w', Kept WA w' none → w'.cell? ⟨w.heap.size, 6, none⟩ = some (.int .i64 S.watch) := fun w' q => (HSB.out.kept q).c6
  have s7_ : ∀ w', Kept WA w' none → w'.cell? ⟨w.heap.size, 7, none⟩ = some (.int .i64 S.feed) := fun w' q => (HSB.out.kept q).c7
  have s8_ : ∀ w', Kept WA w' none → w'.cell? ⟨w.heap.size, 8, none⟩ = some (.int .i64 S.heal) := fun w' q => (HSB.out.kept q).c8
  have s9_ : ∀ w', Kept WA w' none → w'.cell? ⟨w.heap.size, 9, none⟩ = some (.int .i64 S.low) := fun w' q => (HSB.out.kept q).c9
  have s10_ : ∀ w', Kept WA w' none → w'.cell? ⟨w.heap.size, 10, none⟩ = some (.int .i64 S.high) := fun w' q => (HSB.out.kept q).c10
  have s11_ : ∀ w', Kept WA w' none → w'.cell? ⟨w.heap.size, 11, none⟩ = some (.slice X.l S.plans.length X.lc) := fun w' q => (HSB.out.kept q).c11
  have hK0 := Kept.refl WA none
  clear h hkA hsb
  go_enter Tryd.func14, Tryd.ntmps14
  go_wp2_with (first | rw [hWA] | (go_at_call 13; have hx := rwrong_any (c := c) (d := d) (HS.out.kept hKC) (HA.out.kept hKC) (HB.out.kept hKC); rw [HWE.out, HWV.out] at hx; refine hx.mono ?_; rintro e wW ⟨rfl, hkW⟩; have hKW : Kept WA wW none := hKC.tr hkW; clear hx) | (go_at_call 20; have hx := rcheck_any HS.out; rw [hce] at hx; refine hx.mono ?_; rintro e wC ⟨rfl, hkC⟩; have hKC : Kept WA wC none := hkC; clear hx))
  go_ret2
  exact ⟨rfl, HK.out.tr hKW⟩
set_option maxRecDepth 100000 in
set_option maxHeartbeats 2000000 in
theorem rnext_bad {X : Sa} {S : St} {w : World} (h : Sat w X S) {a b : Option Addr} {n c m d : Nat} {L M : List Nat} (hA : By w a n L) (hB : By w b m M) (k : Int) (hs : siteB S = true) (hk0 : 0 ≤ k) (hk1 : k ≤ 1048576) (z : Int) (hwe : wrongE S L M = z) (hz0 : z ≠ 0) : Calls Tryd.prog 14 #[siteV X S, .int .i64 k, .slice a n c, .slice b m d] w fun e w' => e = .returned (.tuple #[.int .i64 0, .int .i64 z]) ∧ Kept w w' none := by
  have hce : checkE S = 0 := by unfold checkE; rw [hs]; rfl
  have h1 : decide (k < 0) = false := by simp; omega
  have h2 : decide (1048576 < k) = false := by simp; omega
  have hwv : wrongV S L M = false := by unfold wrongV; rw [hwe, decide_eq_false hz0]; rfl
  have hzc : (z != 0) = true := by simpa using hz0
  have HWE := Hid.mk' hwe
  have HWV := Hid.mk' hwv
  clear hwe hwv
  have hkA : Kept w (w.alloc (.cells #[.int .i64 S.id, .slice X.g S.groups.length X.gc, .slice X.a S.apart.length X.ac, .slice X.b S.between.length X.bc, .slice X.p S.phases.length X.pc, .slice X.e S.eyes.length X.ec, .int .i64 S.watch, .int .i64 S.feed, .int .i64 S.heal, .int .i64 S.low, .int .i64 S.high, .slice X.l S.plans.length X.lc] 29)) none := Kept.alloc _ _ _ _ _
  have hsb := sbox_alloc h 29
  have HS := Hid.mk' (h.kept hkA)
  obtain ⟨WA, hWA⟩ : ∃ WA, (w.alloc (.cells #[.int .i64 S.id, .slice X.g S.groups.length X.gc, .slice X.a S.apart.length X.ac, .slice X.b S.between.length X.bc, .slice X.p S.phases.length X.pc, .slice X.e S.eyes.length X.ec, .int .i64 S.watch, .int .i64 S.feed, .int .i64 S.heal, .int .i64 S.low, .int .i64 S.high, .slice X.l S.plans.length X.lc] 29)) = WA := ⟨_, rfl⟩
  rw [hWA] at hkA hsb HS
  have HK := Hid.mk' hkA
  have HA := Hid.mk' (hA.kept hkA)
  have HB := Hid.mk' (hB.kept hkA)
  clear hA hB
  have HSB := Hid.mk' hsb
  have s0_ : ∀ w', Kept WA w' none → w'.cell? ⟨w.heap.size, 0, none⟩ = some (.int .i64 S.id) := fun w' q => (HSB.out.kept q).c0
  have s1_ : ∀ w', Kept WA w' none → w'.cell? ⟨w.heap.size, 1, none⟩ = some (.slice X.g S.groups.length X.gc) := fun w' q => (HSB.out.kept q).c1
  have s2_ : ∀ w', Kept WA w' none → w'.cell? ⟨w.heap.size, 2, none⟩ = some (.slice X.a S.apart.length X.ac) := fun w' q => (HSB.out.kept q).c2
  have s3_ : ∀ w', Kept WA w' none → w'.cell? ⟨w.heap.size, 3, none⟩ = some (.slice X.b S.between.length X.bc) := fun w' q => (HSB.out.kept q).c3
  have s4_ : ∀ w', Kept WA w' none → w'.cell? ⟨w.heap.size, 4, none⟩ = some (.slice X.p S.phases.length X.pc) := fun w' q => (HSB.out.kept q).c4
  have s5_ : ∀ w', Kept WA w' none → w'.cell? ⟨w.heap.size, 5, none⟩ = some (.slice X.e S.eyes.length X.ec) := fun w' q => (HSB.out.kept q).c5
  have s6_ : ∀ w', Kept WA w' none → w'.cell? ⟨w.heap.size, 6, none⟩ = some (.int .i64 S.watch) := fun w' q => (HSB.out.kept q).c6
  have s7_ : ∀ w', Kept WA w' none → w'.cell? ⟨w.heap.size, 7, none⟩ = some (.int .i64 S.feed) := fun w' q => (HSB.out.kept q).c7
  have s8_ : ∀ w', Kept WA w' none → w'.cell? ⟨w.heap.size, 8, none⟩ = some (.int .i64 S.heal) := fun w' q => (HSB.out.kept q).c8
  have s9_ : ∀ w', Kept WA w' none → w'.cell? ⟨w.heap.size, 9, none⟩ = some (.int .i64 S.low) := fun w' q => (HSB.out.kept q).c9
  have s10_ : ∀ w', Kept WA w' none → w'.cell? ⟨w.heap.size, 10, none⟩ = some (.int .i64 S.high) := fun w' q => (HSB.out.kept q).c10
  have s11_ : ∀ w', Kept WA w' none → w'.cell? ⟨w.heap.size, 11, none⟩ = some (.slice X.l S.plans.length X.lc) := fun w' q => (HSB.out.kept q).c11
  have hK0 := Kept.refl WA none
  clear h hkA hsb
  go_enter Tryd.func14, Tryd.ntmps14
  go_wp2_with (first | rw [hWA] | (go_at_call 13; have hx := rwrong_any (c := c) (d := d) (HS.out.kept hKC) (HA.out.kept hKC) (HB.out.kept hKC); rw [HWE.out, HWV.out] at hx; refine hx.mono ?_; rintro e wW ⟨rfl, hkW⟩; have hKW : Kept WA wW none := hKC.tr hkW; clear hx) | (go_at_call 20; have hx := rcheck_any HS.out; rw [hce] at hx; refine hx.mono ?_; rintro e wC ⟨rfl, hkC⟩; have hKC : Kept WA wC none := hkC; clear hx))
  go_ret2
  exact ⟨rfl, HK.out.tr hKW⟩
set_option maxRecDepth 100000 in
set_option maxHeartbeats 2000000 in
theorem rnext_same {X : Sa} {S : St} {w : World} (h : Sat w X S) {a b : Option Addr} {n c m d : Nat} {L M : List Nat} (hA : By w a n L) (hB : By w b m M) (k : Int) (hs : siteB S = true) (hk0 : 0 ≤ k) (hk1 : k ≤ 1048576) (hwe : wrongE S L M = 0) (hwv : wrongV S L M = false) : Calls Tryd.prog 14 #[siteV X S, .int .i64 k, .slice a n c, .slice b m d] w fun e w' => e = .returned (.tuple #[.int .i64 0, .int .i64 0]) ∧ Kept w w' none := by
  have hce : checkE S = 0 := by unfold checkE; rw [hs]; rfl
  have h1 : decide (k < 0) = false := by simp; omega
  have h2 : decide (1048576 < k) = false := by simp; omega
  have HWE := Hid.mk' hwe
  have HWV := Hid.mk' hwv
  clear hwe hwv
  have hkA : Kept w (w.alloc (.cells #[.int .i64 S.id, .slice X.g S.groups.length X.gc, .slice X.a S.apart.length X.ac, .slice X.b S.between.length X.bc, .slice X.p S.phases.length X.pc, .slice X.e S.eyes.length X.ec, .int .i64 S.watch, .int .i64 S.feed, .int .i64 S.heal, .int .i64 S.low, .int .i64 S.high, .slice X.l S.plans.length X.lc] 29)) none := Kept.alloc _ _ _ _ _
  have hsb := sbox_alloc h 29
  have HS := Hid.mk' (h.kept hkA)
  obtain ⟨WA, hWA⟩ : ∃ WA, (w.alloc (.cells #[.int .i64 S.id, .slice X.g S.groups.length X.gc, .slice X.a S.apart.length X.ac, .slice X.b S.between.length X.bc, .slice X.p S.phases.length X.pc, .slice X.e S.eyes.length X.ec, .int .i64 S.watch, .int .i64 S.feed, .int .i64 S.heal, .int .i64 S.low, .int .i64 S.high, .slice X.l S.plans.length X.lc] 29)) = WA := ⟨_, rfl⟩
  rw [hWA] at hkA hsb HS
  have HK := Hid.mk' hkA
  have HA := Hid.mk' (hA.kept hkA)
  have HB := Hid.mk' (hB.kept hkA)
  clear hA hB
  have HSB := Hid.mk' hsb
  have s0_ : ∀ w', Kept WA w' none → w'.cell? ⟨w.heap.size, 0, none⟩ = some (.int .i64 S.id) := fun w' q => (HSB.out.kept q).c0
  have s1_ : ∀ w', Kept WA w' none → w'.cell? ⟨w.heap.size, 1, none⟩ = some (.slice X.g S.groups.length X.gc) := fun w' q => (HSB.out.kept q).c1
  have s2_ : ∀ w', Kept WA w' none → w'.cell? ⟨w.heap.size, 2, none⟩ = some (.slice X.a S.apart.length X.ac) := fun w' q => (HSB.out.kept q).c2
  have s3_ : ∀ w', Kept WA w' none → w'.cell? ⟨w.heap.size, 3, none⟩ = some (.slice X.b S.between.length X.bc) := fun w' q => (HSB.out.kept q).c3
  have s4_ : ∀ w', Kept WA w' none → w'.cell? ⟨w.heap.size, 4, none⟩ = some (.slice X.p S.phases.length X.pc) := fun w' q => (HSB.out.kept q).c4
  have s5_ : ∀ w', Kept WA w' none → w'.cell? ⟨w.heap.size, 5, none⟩ = some (.slice X.e S.eyes.length X.ec) := fun w' q => (HSB.out.kept q).c5
  have s6_ : ∀ w', Kept WA w' none → w'.cell? ⟨w.heap.size, 6, none⟩ = some (.int .i64 S.watch) := fun w' q => (HSB.out.kept q).c6
  have s7_ : ∀ w', Kept WA w' none → w'.cell? ⟨w.heap.size, 7, none⟩ = some (.int .i64 S.feed) := fun w' q => (HSB.out.kept q).c7
  have s8_ : ∀ w', Kept WA w' none → w'.cell? ⟨w.heap.size, 8, none⟩ = some (.int .i64 S.heal) := fun w' q => (HSB.out.kept q).c8
  have s9_ : ∀ w', Kept WA w' none → w'.cell? ⟨w.heap.size, 9, none⟩ = some (.int .i64 S.low) := fun w' q => (HSB.out.kept q).c9
  have s10_ : ∀ w', Kept WA w' none → w'.cell? ⟨w.heap.size, 10, none⟩ = some (.int .i64 S.high) := fun w' q => (HSB.out.kept q).c10
  have s11_ : ∀ w', Kept WA w' none → w'.cell? ⟨w.heap.size, 11, none⟩ = some (.slice X.l S.plans.length X.lc) := fun w' q => (HSB.out.kept q).c11
  have hK0 := Kept.refl WA none
  clear h hkA hsb
  go_enter Tryd.func14, Tryd.ntmps14
  go_wp2_with (first | rw [hWA] | (go_at_call 13; have hx := rwrong_any (c := c) (d := d) (HS.out.kept hKC) (HA.out.kept hKC) (HB.out.kept hKC); rw [HWE.out, HWV.out] at hx; refine hx.mono ?_; rintro e wW ⟨rfl, hkW⟩; have hKW : Kept WA wW none := hKC.tr hkW; clear hx) | (go_at_call 20; have hx := rcheck_any HS.out; rw [hce] at hx; refine hx.mono ?_; rintro e wC ⟨rfl, hkC⟩; have hKC : Kept WA wC none := hkC; clear hx))
  go_ret2
  exact ⟨rfl, HK.out.tr hKW⟩
set_option maxRecDepth 100000 in
set_option maxHeartbeats 2000000 in
theorem rnext_more {X : Sa} {S : St} {w : World} (h : Sat w X S) {a b : Option Addr} {n c m d : Nat} {L M : List Nat} (hA : By w a n L) (hB : By w b m M) (k : Int) (hs : siteB S = true) (hk0 : 0 ≤ k) (hk : k < 1048576) (hwe : wrongE S L M = 0) (hwv : wrongV S L M = true) : Calls Tryd.prog 14 #[siteV X S, .int .i64 k, .slice a n c, .slice b m d] w fun e w' => e = .returned (.tuple #[.int .i64 (k + 1), .int .i64 0]) ∧ Kept w w' none := by
  have hce : checkE S = 0 := by unfold checkE; rw [hs]; rfl
  have h1 : decide (k < 0) = false := by simp; omega
  have h2 : decide (1048576 < k) = false := by simp; omega
  have HWE := Hid.mk' hwe
  have HWV := Hid.mk' hwv
  clear hwe hwv
  have hkA : Kept w (w.alloc (.cells #[.int .i64 S.id, .slice X.g S.groups.length X.gc, .slice X.a S.apart.length X.ac, .slice X.b S.between.length X.bc, .slice X.p S.phases.length X.pc, .slice X.e S.eyes.length X.ec, .int .i64 S.watch, .int .i64 S.feed, .int .i64 S.heal, .int .i64 S.low, .int .i64 S.high, .slice X.l S.plans.length X.lc] 29)) none := Kept.alloc _ _ _ _ _
  have hsb := sbox_alloc h 29
  have HS := Hid.mk' (h.kept hkA)
  obtain ⟨WA, hWA⟩ : ∃ WA, (w.alloc (.cells #[.int .i64 S.id, .slice X.g S.groups.length X.gc, .slice X.a S.apart.length X.ac, .slice X.b S.between.length X.bc, .slice X.p S.phases.length X.pc, .slice X.e S.eyes.length X.ec, .int .i64 S.watch, .int .i64 S.feed, .int .i64 S.heal, .int .i64 S.low, .int .i64 S.high, .slice X.l S.plans.length X.lc] 29)) = WA := ⟨_, rfl⟩
  rw [hWA] at hkA hsb HS
  have HK := Hid.mk' hkA
  have HA := Hid.mk' (hA.kept hkA)
  have HB := Hid.mk' (hB.kept hkA)
  clear hA hB
  have HSB := Hid.mk' hsb
  have s0_ : ∀ w', Kept WA w' none → w'.cell? ⟨w.heap.size, 0, none⟩ = some (.int .i64 S.id) := fun w' q => (HSB.out.kept q).c0
  have s1_ : ∀ w', Kept WA w' none → w'.cell? ⟨w.heap.size, 1, none⟩ = some (.slice X.g S.groups.length X.gc) := fun w' q => (HSB.out.kept q).c1
  have s2_ : ∀ w', Kept WA w' none → w'.cell? ⟨w.heap.size, 2, none⟩ = some (.slice X.a S.apart.length X.ac) := fun w' q => (HSB.out.kept q).c2
  have s3_ : ∀ w', Kept WA w' none → w'.cell? ⟨w.heap.size, 3, none⟩ = some (.slice X.b S.between.length X.bc) := fun w' q => (HSB.out.kept q).c3
  have s4_ : ∀ w', Kept WA w' none → w'.cell? ⟨w.heap.size, 4, none⟩ = some (.slice X.p S.phases.length X.pc) := fun w' q => (HSB.out.kept q).c4
  have s5_ : ∀ w', Kept WA w' none → w'.cell? ⟨w.heap.size, 5, none⟩ = some (.slice X.e S.eyes.length X.ec) := fun w' q => (HSB.out.kept q).c5
  have s6_ : ∀ w', Kept WA w' none → w'.cell? ⟨w.heap.size, 6, none⟩ = some (.int .i64 S.watch) := fun w' q => (HSB.out.kept q).c6
  have s7_ : ∀ w', Kept WA w' none → w'.cell? ⟨w.heap.size, 7, none⟩ = some (.int .i64 S.feed) := fun w' q => (HSB.out.kept q).c7
  have s8_ : ∀ w', Kept WA w' none → w'.cell? ⟨w.heap.size, 8, none⟩ = some (.int .i64 S.heal) := fun w' q => (HSB.out.kept q).c8
  have s9_ : ∀ w', Kept WA w' none → w'.cell? ⟨w.heap.size, 9, none⟩ = some (.int .i64 S.low) := fun w' q => (HSB.out.kept q).c9
  have s10_ : ∀ w', Kept WA w' none → w'.cell? ⟨w.heap.size, 10, none⟩ = some (.int .i64 S.high) := fun w' q => (HSB.out.kept q).c10
  have s11_ : ∀ w', Kept WA w' none → w'.cell? ⟨w.heap.size, 11, none⟩ = some (.slice X.l S.plans.length X.lc) := fun w' q => (HSB.out.kept q).c11
  have hK0 := Kept.refl WA none
  clear h hkA hsb
  go_enter Tryd.func14, Tryd.ntmps14
  go_wp2_with (first | rw [hWA] | (go_at_call 13; have hx := rwrong_any (c := c) (d := d) (HS.out.kept hKC) (HA.out.kept hKC) (HB.out.kept hKC); rw [HWE.out, HWV.out] at hx; refine hx.mono ?_; rintro e wW ⟨rfl, hkW⟩; have hKW : Kept WA wW none := hKC.tr hkW; clear hx) | (go_at_call 20; have hx := rcheck_any HS.out; rw [hce] at hx; refine hx.mono ?_; rintro e wC ⟨rfl, hkC⟩; have hKC : Kept WA wC none := hkC; clear hx))
  go_ret2
  exact ⟨rfl, HK.out.tr hKW⟩
set_option maxRecDepth 100000 in
set_option maxHeartbeats 2000000 in
theorem rnext_top {X : Sa} {S : St} {w : World} (h : Sat w X S) {a b : Option Addr} {n c m d : Nat} {L M : List Nat} (hA : By w a n L) (hB : By w b m M) (k : Int) (hs : siteB S = true) (hk : k = 1048576) (hwe : wrongE S L M = 0) (hwv : wrongV S L M = true) : Calls Tryd.prog 14 #[siteV X S, .int .i64 k, .slice a n c, .slice b m d] w fun e w' => e = .returned (.tuple #[.int .i64 1048576, .int .i64 0]) ∧ Kept w w' none := by
  have hce : checkE S = 0 := by unfold checkE; rw [hs]; rfl
  subst hk
  have HWE := Hid.mk' hwe
  have HWV := Hid.mk' hwv
  clear hwe hwv
  have hkA : Kept w (w.alloc (.cells #[.int .i64 S.id, .slice X.g S.groups.length X.gc, .slice X.a S.apart.length X.ac, .slice X.b S.between.length X.bc, .slice X.p S.phases.length X.pc, .slice X.e S.eyes.length X.ec, .int .i64 S.watch, .int .i64 S.feed, .int .i64 S.heal, .int .i64 S.low, .int .i64 S.high, .slice X.l S.plans.length X.lc] 29)) none := Kept.alloc _ _ _ _ _
  have hsb := sbox_alloc h 29
  have HS := Hid.mk' (h.kept hkA)
  obtain ⟨WA, hWA⟩ : ∃ WA, (w.alloc (.cells #[.int .i64 S.id, .slice X.g S.groups.length X.gc, .slice X.a S.apart.length X.ac, .slice X.b S.between.length X.bc, .slice X.p S.phases.length X.pc, .slice X.e S.eyes.length X.ec, .int .i64 S.watch, .int .i64 S.feed, .int .i64 S.heal, .int .i64 S.low, .int .i64 S.high, .slice X.l S.plans.length X.lc] 29)) = WA := ⟨_, rfl⟩
  rw [hWA] at hkA hsb HS
  have HK := Hid.mk' hkA
  have HA := Hid.mk' (hA.kept hkA)
  have HB := Hid.mk' (hB.kept hkA)
  clear hA hB
  have HSB := Hid.mk' hsb
  have s0_ : ∀ w', Kept WA w' none → w'.cell? ⟨w.heap.size, 0, none⟩ = some (.int .i64 S.id) := fun w' q => (HSB.out.kept q).c0
  have s1_ : ∀ w', Kept WA w' none → w'.cell? ⟨w.heap.size, 1, none⟩ = some (.slice X.g S.groups.length X.gc) := fun w' q => (HSB.out.kept q).c1
  have s2_ : ∀ w', Kept WA w' none → w'.cell? ⟨w.heap.size, 2, none⟩ = some (.slice X.a S.apart.length X.ac) := fun w' q => (HSB.out.kept q).c2
  have s3_ : ∀ w', Kept WA w' none → w'.cell? ⟨w.heap.size, 3, none⟩ = some (.slice X.b S.between.length X.bc) := fun w' q => (HSB.out.kept q).c3
  have s4_ : ∀ w', Kept WA w' none → w'.cell? ⟨w.heap.size, 4, none⟩ = some (.slice X.p S.phases.length X.pc) := fun w' q => (HSB.out.kept q).c4
  have s5_ : ∀ w', Kept WA w' none → w'.cell? ⟨w.heap.size, 5, none⟩ = some (.slice X.e S.eyes.length X.ec) := fun w' q => (HSB.out.kept q).c5
  have s6_ : ∀ w', Kept WA w' none → w'.cell? ⟨w.heap.size, 6, none⟩ = some (.int .i64 S.watch) := fun w' q => (HSB.out.kept q).c6
  have s7_ : ∀ w', Kept WA w' none → w'.cell? ⟨w.heap.size, 7, none⟩ = some (.int .i64 S.feed) := fun w' q => (HSB.out.kept q).c7
  have s8_ : ∀ w', Kept WA w' none → w'.cell? ⟨w.heap.size, 8, none⟩ = some (.int .i64 S.heal) := fun w' q => (HSB.out.kept q).c8
  have s9_ : ∀ w', Kept WA w' none → w'.cell? ⟨w.heap.size, 9, none⟩ = some (.int .i64 S.low) := fun w' q => (HSB.out.kept q).c9
  have s10_ : ∀ w', Kept WA w' none → w'.cell? ⟨w.heap.size, 10, none⟩ = some (.int .i64 S.high) := fun w' q => (HSB.out.kept q).c10
  have s11_ : ∀ w', Kept WA w' none → w'.cell? ⟨w.heap.size, 11, none⟩ = some (.slice X.l S.plans.length X.lc) := fun w' q => (HSB.out.kept q).c11
  have hK0 := Kept.refl WA none
  clear h hkA hsb
  go_enter Tryd.func14, Tryd.ntmps14
  go_wp2_with (first | rw [hWA] | (go_at_call 13; have hx := rwrong_any (c := c) (d := d) (HS.out.kept hKC) (HA.out.kept hKC) (HB.out.kept hKC); rw [HWE.out, HWV.out] at hx; refine hx.mono ?_; rintro e wW ⟨rfl, hkW⟩; have hKW : Kept WA wW none := hKC.tr hkW; clear hx) | (go_at_call 20; have hx := rcheck_any HS.out; rw [hce] at hx; refine hx.mono ?_; rintro e wC ⟨rfl, hkC⟩; have hKC : Kept WA wC none := hkC; clear hx))
  go_ret2
  exact ⟨rfl, HK.out.tr hKW⟩
theorem rnext_any {X : Sa} {S : St} {w : World} (h : Sat w X S) {a b : Option Addr} {n c m d : Nat} {L M : List Nat} (hA : By w a n L) (hB : By w b m M) (k : Int) : Calls Tryd.prog 14 #[siteV X S, .int .i64 k, .slice a n c, .slice b m d] w fun e w' => e = .returned (.tuple #[.int .i64 (nextV S k L M), .int .i64 (nextE S k L M)]) ∧ Kept w w' none := by
  by_cases hc : countE S k = 0
  · have hE : nextE S k L M = bothE S.groups.length L M := by unfold nextE; rw [if_pos hc]
    obtain ⟨hs, h0, h1⟩ := countE_ok hc
    have hw : wrongE S L M = bothE S.groups.length L M := by unfold wrongE; rw [hs]; rfl
    by_cases hz : bothE S.groups.length L M = 0
    · have hv : wrongV S L M = difB L M := by unfold wrongV; rw [hw, hz, decide_eq_true rfl, Bool.true_and]
      cases hd : difB L M with
      | false =>
        rw [show nextV S k L M = 0 by unfold nextV; rw [if_neg (by rw [hd]; simp)], hE, hz]
        exact rnext_same h hA hB k hs h0 h1 (hw.trans hz) (hv.trans hd)
      | true =>
        by_cases hk : k < 1048576
        · rw [show nextV S k L M = k + 1 by unfold nextV; rw [if_pos ⟨by rw [hE, hz], hd⟩, if_pos (by omega)], hE, hz]
          exact rnext_more h hA hB k hs h0 hk (hw.trans hz) (hv.trans hd)
        · rw [show nextV S k L M = 1048576 by unfold nextV; rw [if_pos ⟨by rw [hE, hz], hd⟩, if_neg (by omega)], hE, hz]
          exact rnext_top h hA hB k hs (by omega) (hw.trans hz) (hv.trans hd)
    · rw [nextV_no (by rw [hE]; exact hz), hE]
      exact rnext_bad h hA hB k hs h0 h1 _ hw hz
  · have hE : nextE S k L M = countE S k := by unfold nextE; rw [if_neg hc]
    rw [nextV_no (by rw [hE]; exact hc), hE]
    cases hs : siteB S with
    | false => rw [show countE S k = 50 by unfold countE; rw [hs]; rfl]; exact rnext_site h hA hB k hs
    | true =>
      by_cases h1 : k < 0
      · rw [show countE S k = 2 by unfold countE; rw [hs, if_pos rfl, if_neg (by omega)]]; exact rnext_low h hA hB k hs h1
      · by_cases h2 : 1048576 < k
        · rw [show countE S k = 2 by unfold countE; rw [hs, if_pos rfl, if_neg (by omega)]]; exact rnext_high h hA hB k hs h2
        · exact absurd (by unfold countE; rw [hs, if_pos rfl, if_pos (by omega)]) hc
set_option maxRecDepth 100000 in
set_option maxHeartbeats 2000000 in
theorem rlat_site {X : Sa} {S : St} {w : World} (h : Sat w X S) (k : Int) (hs : siteB S = false) : Calls Tryd.prog 15 #[siteV X S, .int .i64 k] w fun e w' => e = .returned (.tuple #[.bool false, .int .i64 50]) ∧ Kept w w' none := by
  have hce : checkE S = 50 := by unfold checkE; rw [hs]; rfl
  have hkA : Kept w (w.alloc (.cells #[.int .i64 S.id, .slice X.g S.groups.length X.gc, .slice X.a S.apart.length X.ac, .slice X.b S.between.length X.bc, .slice X.p S.phases.length X.pc, .slice X.e S.eyes.length X.ec, .int .i64 S.watch, .int .i64 S.feed, .int .i64 S.heal, .int .i64 S.low, .int .i64 S.high, .slice X.l S.plans.length X.lc] 29)) none := Kept.alloc _ _ _ _ _
  have hsb := sbox_alloc h 29
  have HS := Hid.mk' (h.kept hkA)
  obtain ⟨WA, hWA⟩ : ∃ WA, (w.alloc (.cells #[.int .i64 S.id, .slice X.g S.groups.length X.gc, .slice X.a S.apart.length X.ac, .slice X.b S.between.length X.bc, .slice X.p S.phases.length X.pc, .slice X.e S.eyes.length X.ec, .int .i64 S.watch, .int .i64 S.feed, .int .i64 S.heal, .int .i64 S.low, .int .i64 S.high, .slice X.l S.plans.length X.lc] 29)) = WA := ⟨_, rfl⟩
  rw [hWA] at hkA hsb HS
  have HK := Hid.mk' hkA
  have HSB := Hid.mk' hsb
  have s0_ : ∀ w', Kept WA w' none → w'.cell? ⟨w.heap.size, 0, none⟩ = some (.int .i64 S.id) := fun w' q => (HSB.out.kept q).c0
  have s1_ : ∀ w', Kept WA w' none → w'.cell? ⟨w.heap.size, 1, none⟩ = some (.slice X.g S.groups.length X.gc) := fun w' q => (HSB.out.kept q).c1
  have s2_ : ∀ w', Kept WA w' none → w'.cell? ⟨w.heap.size, 2, none⟩ = some (.slice X.a S.apart.length X.ac) := fun w' q => (HSB.out.kept q).c2
  have s3_ : ∀ w', Kept WA w' none → w'.cell? ⟨w.heap.size, 3, none⟩ = some (.slice X.b S.between.length X.bc) := fun w' q => (HSB.out.kept q).c3
  have s4_ : ∀ w', Kept WA w' none → w'.cell? ⟨w.heap.size, 4, none⟩ = some (.slice X.p S.phases.length X.pc) := fun w' q => (HSB.out.kept q).c4
  have s5_ : ∀ w', Kept WA w' none → w'.cell? ⟨w.heap.size, 5, none⟩ = some (.slice X.e S.eyes.length X.ec) := fun w' q => (HSB.out.kept q).c5
  have s6_ : ∀ w', Kept WA w' none → w'.cell? ⟨w.heap.size, 6, none⟩ = some (.int .i64 S.watch) := fun w' q => (HSB.out.kept q).c6
  have s7_ : ∀ w', Kept WA w' none → w'.cell? ⟨w.heap.size, 7, none⟩ = some (.int .i64 S.feed) := fun w' q => (HSB.out.kept q).c7
  have s8_ : ∀ w', Kept WA w' none → w'.cell? ⟨w.heap.size, 8, none⟩ = some (.int .i64 S.heal) := fun w' q => (HSB.out.kept q).c8
  have s9_ : ∀ w', Kept WA w' none → w'.cell? ⟨w.heap.size, 9, none⟩ = some (.int .i64 S.low) := fun w' q => (HSB.out.kept q).c9
  have s10_ : ∀ w', Kept WA w' none → w'.cell? ⟨w.heap.size, 10, none⟩ = some (.int .i64 S.high) := fun w' q => (HSB.out.kept q).c10
  have s11_ : ∀ w', Kept WA w' none → w'.cell? ⟨w.heap.size, 11, none⟩ = some (.slice X.l S.plans.length X.lc) := fun w' q => (HSB.out.kept q).c11
  have hK0 := Kept.refl WA none
  clear h hkA hsb
  go_enter Tryd.func15, Tryd.ntmps15
  go_wp2_with (first | rw [hWA] | (go_at_call 20; have hx := rcheck_any HS.out; rw [hce] at hx; refine hx.mono ?_; rintro e wC ⟨rfl, hkC⟩; have hKC : Kept WA wC none := hkC; clear hx))
  go_ret2
  exact ⟨rfl, HK.out.tr hKC⟩
set_option maxRecDepth 100000 in
set_option maxHeartbeats 2000000 in
theorem rlat_low {X : Sa} {S : St} {w : World} (h : Sat w X S) (k : Int) (hs : siteB S = true) (hk : k < 0) : Calls Tryd.prog 15 #[siteV X S, .int .i64 k] w fun e w' => e = .returned (.tuple #[.bool false, .int .i64 2]) ∧ Kept w w' none := by
  have hce : checkE S = 0 := by unfold checkE; rw [hs]; rfl
  have h1 : decide (k < 0) = true := by simpa using hk
  have hkA : Kept w (w.alloc (.cells #[.int .i64 S.id, .slice X.g S.groups.length X.gc, .slice X.a S.apart.length X.ac, .slice X.b S.between.length X.bc, .slice X.p S.phases.length X.pc, .slice X.e S.eyes.length X.ec, .int .i64 S.watch, .int .i64 S.feed, .int .i64 S.heal, .int .i64 S.low, .int .i64 S.high, .slice X.l S.plans.length X.lc] 29)) none := Kept.alloc _ _ _ _ _
  have hsb := sbox_alloc h 29
  have HS := Hid.mk' (h.kept hkA)
  obtain ⟨WA, hWA⟩ : ∃ WA, (w.alloc (.cells #[.int .i64 S.id, .slice X.g S.groups.length X.gc, .slice X.a S.apart.length X.ac, .slice X.b S.between.length X.bc, .slice X.p S.phases.length X.pc, .slice X.e S.eyes.length X.ec, .int .i64 S.watch, .int .i64 S.feed, .int .i64 S.heal, .int .i64 S.low, .int .i64 S.high, .slice X.l S.plans.length X.lc] 29)) = WA := ⟨_, rfl⟩
  rw [hWA] at hkA hsb HS
  have HK := Hid.mk' hkA
  have HSB := Hid.mk' hsb
  have s0_ : ∀ w', Kept WA w' none → w'.cell? ⟨w.heap.size, 0, none⟩ = some (.int .i64 S.id) := fun w' q => (HSB.out.kept q).c0
  have s1_ : ∀ w', Kept WA w' none → w'.cell? ⟨w.heap.size, 1, none⟩ = some (.slice X.g S.groups.length X.gc) := fun w' q => (HSB.out.kept q).c1
  have s2_ : ∀ w', Kept WA w' none → w'.cell? ⟨w.heap.size, 2, none⟩ = some (.slice X.a S.apart.length X.ac) := fun w' q => (HSB.out.kept q).c2
  have s3_ : ∀ w', Kept WA w' none → w'.cell? ⟨w.heap.size, 3, none⟩ = some (.slice X.b S.between.length X.bc) := fun w' q => (HSB.out.kept q).c3
  have s4_ : ∀ w', Kept WA w' none → w'.cell? ⟨w.heap.size, 4, none⟩ = some (.slice X.p S.phases.length X.pc) := fun w' q => (HSB.out.kept q).c4
  have s5_ : ∀ w', Kept WA w' none → w'.cell? ⟨w.heap.size, 5, none⟩ = some (.slice X.e S.eyes.length X.ec) := fun w' q => (HSB.out.kept q).c5
  have s6_ : ∀ w', Kept WA w' none → w'.cell? ⟨w.heap.size, 6, none⟩ = some (.int .i64 S.watch) := fun w' q => (HSB.out.kept q).c6
  have s7_ : ∀ w', Kept WA w' none → w'.cell? ⟨w.heap.size, 7, none⟩ = some (.int .i64 S.feed) := fun w' q => (HSB.out.kept q).c7
  have s8_ : ∀ w', Kept WA w' none → w'.cell? ⟨w.heap.size, 8, none⟩ = some (.int .i64 S.heal) := fun w' q => (HSB.out.kept q).c8
  have s9_ : ∀ w', Kept WA w' none → w'.cell? ⟨w.heap.size, 9, none⟩ = some (.int .i64 S.low) := fun w' q => (HSB.out.kept q).c9
  have s10_ : ∀ w', Kept WA w' none → w'.cell? ⟨w.heap.size, 10, none⟩ = some (.int .i64 S.high) := fun w' q => (HSB.out.kept q).c10
  have s11_ : ∀ w', Kept WA w' none → w'.cell? ⟨w.heap.size, 11, none⟩ = some (.slice X.l S.plans.length X.lc) := fun w' q => (HSB.out.kept q).c11
  have hK0 := Kept.refl WA none
  clear h hkA hsb
  go_enter Tryd.func15, Tryd.ntmps15
  go_wp2_with (first | rw [hWA] | (go_at_call 20; have hx := rcheck_any HS.out; rw [hce] at hx; refine hx.mono ?_; rintro e wC ⟨rfl, hkC⟩; have hKC : Kept WA wC none := hkC; clear hx))
  go_ret2
  exact ⟨rfl, HK.out.tr hKC⟩
set_option maxRecDepth 100000 in
set_option maxHeartbeats 2000000 in
theorem rlat_high {X : Sa} {S : St} {w : World} (h : Sat w X S) (k : Int) (hs : siteB S = true) (hk : 1048576 < k) : Calls Tryd.prog 15 #[siteV X S, .int .i64 k] w fun e w' => e = .returned (.tuple #[.bool false, .int .i64 2]) ∧ Kept w w' none := by
  have hce : checkE S = 0 := by unfold checkE; rw [hs]; rfl
  have h1 : decide (k < 0) = false := by simp; omega
  have h2 : decide (1048576 < k) = true := by simpa using hk
  have hkA : Kept w (w.alloc (.cells #[.int .i64 S.id, .slice X.g S.groups.length X.gc, .slice X.a S.apart.length X.ac, .slice X.b S.between.length X.bc, .slice X.p S.phases.length X.pc, .slice X.e S.eyes.length X.ec, .int .i64 S.watch, .int .i64 S.feed, .int .i64 S.heal, .int .i64 S.low, .int .i64 S.high, .slice X.l S.plans.length X.lc] 29)) none := Kept.alloc _ _ _ _ _
  have hsb := sbox_alloc h 29
  have HS := Hid.mk' (h.kept hkA)
  obtain ⟨WA, hWA⟩ : ∃ WA, (w.alloc (.cells #[.int .i64 S.id, .slice X.g S.groups.length X.gc, .slice X.a S.apart.length X.ac, .slice X.b S.between.length X.bc, .slice X.p S.phases.length X.pc, .slice X.e S.eyes.length X.ec, .int .i64 S.watch, .int .i64 S.feed, .int .i64 S.heal, .int .i64 S.low, .int .i64 S.high, .slice X.l S.plans.length X.lc] 29)) = WA := ⟨_, rfl⟩
  rw [hWA] at hkA hsb HS
  have HK := Hid.mk' hkA
  have HSB := Hid.mk' hsb
  have s0_ : ∀ w', Kept WA w' none → w'.cell? ⟨w.heap.size, 0, none⟩ = some (.int .i64 S.id) := fun w' q => (HSB.out.kept q).c0
  have s1_ : ∀ w', Kept WA w' none → w'.cell? ⟨w.heap.size, 1, none⟩ = some (.slice X.g S.groups.length X.gc) := fun w' q => (HSB.out.kept q).c1
  have s2_ : ∀ w', Kept WA w' none → w'.cell? ⟨w.heap.size, 2, none⟩ = some (.slice X.a S.apart.length X.ac) := fun w' q => (HSB.out.kept q).c2
  have s3_ : ∀ w', Kept WA w' none → w'.cell? ⟨w.heap.size, 3, none⟩ = some (.slice X.b S.between.length X.bc) := fun w' q => (HSB.out.kept q).c3
  have s4_ : ∀ w', Kept WA w' none → w'.cell? ⟨w.heap.size, 4, none⟩ = some (.slice X.p S.phases.length X.pc) := fun w' q => (HSB.out.kept q).c4
  have s5_ : ∀ w', Kept WA w' none → w'.cell? ⟨w.heap.size, 5, none⟩ = some (.slice X.e S.eyes.length X.ec) := fun w' q => (HSB.out.kept q).c5
  have s6_ : ∀ w', Kept WA w' none → w'.cell? ⟨w.heap.size, 6, none⟩ = some (.int .i64 S.watch) := fun w' q => (HSB.out.kept q).c6
  have s7_ : ∀ w', Kept WA w' none → w'.cell? ⟨w.heap.size, 7, none⟩ = some (.int .i64 S.feed) := fun w' q => (HSB.out.kept q).c7
  have s8_ : ∀ w', Kept WA w' none → w'.cell? ⟨w.heap.size, 8, none⟩ = some (.int .i64 S.heal) := fun w' q => (HSB.out.kept q).c8
  have s9_ : ∀ w', Kept WA w' none → w'.cell? ⟨w.heap.size, 9, none⟩ = some (.int .i64 S.low) := fun w' q => (HSB.out.kept q).c9
  have s10_ : ∀ w', Kept WA w' none → w'.cell? ⟨w.heap.size, 10, none⟩ = some (.int .i64 S.high) := fun w' q => (HSB.out.kept q).c10
  have s11_ : ∀ w', Kept WA w' none → w'.cell? ⟨w.heap.size, 11, none⟩ = some (.slice X.l S.plans.length X.lc) := fun w' q => (HSB.out.kept q).c11
  have hK0 := Kept.refl WA none
  clear h hkA hsb
  go_enter Tryd.func15, Tryd.ntmps15
  go_wp2_with (first | rw [hWA] | (go_at_call 20; have hx := rcheck_any HS.out; rw [hce] at hx; refine hx.mono ?_; rintro e wC ⟨rfl, hkC⟩; have hKC : Kept WA wC none := hkC; clear hx))
  go_ret2
  exact ⟨rfl, HK.out.tr hKC⟩
set_option maxRecDepth 100000 in
set_option maxHeartbeats 2000000 in
theorem rlat_go {X : Sa} {S : St} {w : World} (h : Sat w X S) (k : Int) (hs : siteB S = true) (hk0 : 0 ≤ k) (hk1 : k ≤ 1048576) : Calls Tryd.prog 15 #[siteV X S, .int .i64 k] w fun e w' => e = .returned (.tuple #[.bool (decide (S.feed ≤ k)), .int .i64 0]) ∧ Kept w w' none := by
  have hce : checkE S = 0 := by unfold checkE; rw [hs]; rfl
  have h1 : decide (k < 0) = false := by simp; omega
  have h2 : decide (1048576 < k) = false := by simp; omega
  have hkA : Kept w (w.alloc (.cells #[.int .i64 S.id, .slice X.g S.groups.length X.gc, .slice X.a S.apart.length X.ac, .slice X.b S.between.length X.bc, .slice X.p S.phases.length X.pc, .slice X.e S.eyes.length X.ec, .int .i64 S.watch, .int .i64 S.feed, .int .i64 S.heal, .int .i64 S.low, .int .i64 S.high, .slice X.l S.plans.length X.lc] 29)) none := Kept.alloc _ _ _ _ _
  have hsb := sbox_alloc h 29
  have HS := Hid.mk' (h.kept hkA)
  obtain ⟨WA, hWA⟩ : ∃ WA, (w.alloc (.cells #[.int .i64 S.id, .slice X.g S.groups.length X.gc, .slice X.a S.apart.length X.ac, .slice X.b S.between.length X.bc, .slice X.p S.phases.length X.pc, .slice X.e S.eyes.length X.ec, .int .i64 S.watch, .int .i64 S.feed, .int .i64 S.heal, .int .i64 S.low, .int .i64 S.high, .slice X.l S.plans.length X.lc] 29)) = WA := ⟨_, rfl⟩
  rw [hWA] at hkA hsb HS
  have HK := Hid.mk' hkA
  have HSB := Hid.mk' hsb
  have s0_ : ∀ w', Kept WA w' none → w'.cell? ⟨w.heap.size, 0, none⟩ = some (.int .i64 S.id) := fun w' q => (HSB.out.kept q).c0
  have s1_ : ∀ w', Kept WA w' none → w'.cell? ⟨w.heap.size, 1, none⟩ = some (.slice X.g S.groups.length X.gc) := fun w' q => (HSB.out.kept q).c1
  have s2_ : ∀ w', Kept WA w' none → w'.cell? ⟨w.heap.size, 2, none⟩ = some (.slice X.a S.apart.length X.ac) := fun w' q => (HSB.out.kept q).c2
  have s3_ : ∀ w', Kept WA w' none → w'.cell? ⟨w.heap.size, 3, none⟩ = some (.slice X.b S.between.length X.bc) := fun w' q => (HSB.out.kept q).c3
  have s4_ : ∀ w', Kept WA w' none → w'.cell? ⟨w.heap.size, 4, none⟩ = some (.slice X.p S.phases.length X.pc) := fun w' q => (HSB.out.kept q).c4
  have s5_ : ∀ w', Kept WA w' none → w'.cell? ⟨w.heap.size, 5, none⟩ = some (.slice X.e S.eyes.length X.ec) := fun w' q => (HSB.out.kept q).c5
  have s6_ : ∀ w', Kept WA w' none → w'.cell? ⟨w.heap.size, 6, none⟩ = some (.int .i64 S.watch) := fun w' q => (HSB.out.kept q).c6
  have s7_ : ∀ w', Kept WA w' none → w'.cell? ⟨w.heap.size, 7, none⟩ = some (.int .i64 S.feed) := fun w' q => (HSB.out.kept q).c7
  have s8_ : ∀ w', Kept WA w' none → w'.cell? ⟨w.heap.size, 8, none⟩ = some (.int .i64 S.heal) := fun w' q => (HSB.out.kept q).c8
  have s9_ : ∀ w', Kept WA w' none → w'.cell? ⟨w.heap.size, 9, none⟩ = some (.int .i64 S.low) := fun w' q => (HSB.out.kept q).c9
  have s10_ : ∀ w', Kept WA w' none → w'.cell? ⟨w.heap.size, 10, none⟩ = some (.int .i64 S.high) := fun w' q => (HSB.out.kept q).c10
  have s11_ : ∀ w', Kept WA w' none → w'.cell? ⟨w.heap.size, 11, none⟩ = some (.slice X.l S.plans.length X.lc) := fun w' q => (HSB.out.kept q).c11
  have hK0 := Kept.refl WA none
  clear h hkA hsb
  go_enter Tryd.func15, Tryd.ntmps15
  go_wp2_with (first | rw [hWA] | (go_at_call 20; have hx := rcheck_any HS.out; rw [hce] at hx; refine hx.mono ?_; rintro e wC ⟨rfl, hkC⟩; have hKC : Kept WA wC none := hkC; clear hx))
  go_ret2
  exact ⟨rfl, HK.out.tr hKC⟩
theorem rlat_any {X : Sa} {S : St} {w : World} (h : Sat w X S) (k : Int) : Calls Tryd.prog 15 #[siteV X S, .int .i64 k] w fun e w' => e = .returned (.tuple #[.bool (latV S k), .int .i64 (countE S k)]) ∧ Kept w w' none := by
  unfold latV
  by_cases hc : countE S k = 0
  · rw [hc, decide_eq_true rfl, Bool.true_and]
    obtain ⟨hs, h0, h1⟩ := countE_ok hc
    exact rlat_go h k hs h0 h1
  · rw [decide_eq_false hc, Bool.false_and]
    cases hs : siteB S with
    | false => rw [show countE S k = 50 by unfold countE; rw [hs]; rfl]; exact rlat_site h k hs
    | true =>
      by_cases h1 : k < 0
      · rw [show countE S k = 2 by unfold countE; rw [hs, if_pos rfl, if_neg (by omega)]]; exact rlat_low h k hs h1
      · by_cases h2 : 1048576 < k
        · rw [show countE S k = 2 by unfold countE; rw [hs, if_pos rfl, if_neg (by omega)]]; exact rlat_high h k hs h2
        · exact absurd (by unfold countE; rw [hs, if_pos rfl, if_pos (by omega)]) hc

end Go.Proofs.YtlpphapbehajnaaDoor
