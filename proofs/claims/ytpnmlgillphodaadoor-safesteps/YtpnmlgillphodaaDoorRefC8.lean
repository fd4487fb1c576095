/-
  Texts joined: some of those that the proofs of this seat stand on.
-/
import Derived.Test.YtpnmlgillphodaaDoorRefF8J
import Derived.Test.YtpnmlgillphodaaDoorRefH8
import Derived.Test.YtpnmlgillphodaaDoorRefK2
/-
  THE DOCUMENT'S Check of layer 8 (made by a program).
-/
namespace Go.Proofs.YtpnmlgillphodaaDoor
open Go.RowKit Go.Lib Go.Deep
set_option linter.unusedVariables false
set_option linter.unusedSimpArgs false

/-- A drawn region's one way, and what is then. -/
def Rw8 (A : Act) (P : World → Prop) (e : Exit) (a : Act) (w : World) : Prop := match e with
  | .normal => a = A ∧ P w
  | _ => False
theorem Rw8.out {A : Act} {P : World → Prop} {w : World} {e : Exit} {a : Act} (h : Rw8 A P e a w) : e = .normal ∧ a = A ∧ P w := by
  cases e with
  | normal => exact ⟨rfl, h.1, h.2⟩
  | _ => exact h.elim
theorem SafeAt.set {w : World} {a : Option Addr} {c : Nat} {F : Sf} (h : SafeAt w a c F) (b : Nat) (hr : ∀ x, a = some x → x.block ≠ b) (i : Nat) (v : Value) : SafeAt (w.setCell ⟨b, i, none⟩ v) a c F := by
  refine ⟨⟨fun hp => ?_⟩, h.cap, h.rng⟩
  obtain ⟨b', off, rfl, hb, hc⟩ := h.lie.at_ hp
  have hn : b' ≠ b := hr _ rfl
  exact ⟨b', off, rfl, by simpa [World.setCell] using hb, fun i' hi j hj => (World.cell?_setCell_other _ _ _ _ (by simp [hn, Ne.symm hn])).trans (hc i' hi j hj)⟩

set_option maxRecDepth 100000 in
set_option maxHeartbeats 4000000 in
theorem rchk_no {X : Sa} {S : St} {w : World} {pa : Option Addr} {n cp : Nat} {T : List (List Nat)} (h : Sat w X S) (hP : Trc w pa n T) (hs : siteB S = false) : Calls Tryd.prog 21 #[siteV X S, .slice pa n cp] w fun e w' => e = .returned (.tuple #[.int .i64 0, .int .u8 0, .int .i64 50]) ∧ Kept w w' none := by
  have HCE := Hid.mk' (checkE_no hs)
  have k1 : Kept w (w.alloc (.cells #[.int .i64 S.id, .slice X.g S.groups.length X.gc, .slice X.a S.apart.length X.ac, .slice X.b S.between.length X.bc, .slice X.p S.phases.length X.pc, .slice X.e S.eyes.length X.ec, .int .i64 S.watch, .int .i64 S.feed, .int .i64 S.heal, .int .i64 S.low, .int .i64 S.high, .slice X.l S.plans.length X.lc] 33)) none := Kept.alloc _ _ _ _ _
  have hsb := sbox_alloc h 33
  have hsz : (w.alloc (.cells #[.int .i64 S.id, .slice X.g S.groups.length X.gc, .slice X.a S.apart.length X.ac, .slice X.b S.between.length X.bc, .slice X.p S.phases.length X.pc, .slice X.e S.eyes.length X.ec, .int .i64 S.watch, .int .i64 S.feed, .int .i64 S.heal, .int .i64 S.low, .int .i64 S.high, .slice X.l S.plans.length X.lc] 33)).heap.size = w.heap.size + 1 := by simp
  have hPA := hP.kept k1
  obtain ⟨W1, hW1⟩ : ∃ W1, w.alloc (.cells #[.int .i64 S.id, .slice X.g S.groups.length X.gc, .slice X.a S.apart.length X.ac, .slice X.b S.between.length X.bc, .slice X.p S.phases.length X.pc, .slice X.e S.eyes.length X.ec, .int .i64 S.watch, .int .i64 S.feed, .int .i64 S.heal, .int .i64 S.low, .int .i64 S.high, .slice X.l S.plans.length X.lc] 33) = W1 := ⟨_, rfl⟩
  rw [hW1] at k1 hsb hsz hPA
  have HSB := Hid.mk' hsb
  have HSZ := Hid.mk' hsz
  have HK := Hid.mk' k1
  have HP := Hid.mk' hPA
  have hK0 := Kept.refl W1 none
  have s0_ : ∀ w', Kept W1 w' none → w'.cell? ⟨w.heap.size, 0, none⟩ = some (.int .i64 S.id) := fun w' q => (HSB.out.kept q).c0
  have s1_ : ∀ w', Kept W1 w' none → w'.cell? ⟨w.heap.size, 1, none⟩ = some (.slice X.g S.groups.length X.gc) := fun w' q => (HSB.out.kept q).c1
  have s2_ : ∀ w', Kept W1 w' none → w'.cell? ⟨w.heap.size, 2, none⟩ = some (.slice X.a S.apart.length X.ac) := fun w' q => (HSB.out.kept q).c2
  have s3_ : ∀ w', Kept W1 w' none → w'.cell? ⟨w.heap.size, 3, none⟩ = some (.slice X.b S.between.length X.bc) := fun w' q => (HSB.out.kept q).c3
  have s4_ : ∀ w', Kept W1 w' none → w'.cell? ⟨w.heap.size, 4, none⟩ = some (.slice X.p S.phases.length X.pc) := fun w' q => (HSB.out.kept q).c4
  have s5_ : ∀ w', Kept W1 w' none → w'.cell? ⟨w.heap.size, 5, none⟩ = some (.slice X.e S.eyes.length X.ec) := fun w' q => (HSB.out.kept q).c5
  have s6_ : ∀ w', Kept W1 w' none → w'.cell? ⟨w.heap.size, 6, none⟩ = some (.int .i64 S.watch) := fun w' q => (HSB.out.kept q).c6
  have s7_ : ∀ w', Kept W1 w' none → w'.cell? ⟨w.heap.size, 7, none⟩ = some (.int .i64 S.feed) := fun w' q => (HSB.out.kept q).c7
  have s8_ : ∀ w', Kept W1 w' none → w'.cell? ⟨w.heap.size, 8, none⟩ = some (.int .i64 S.heal) := fun w' q => (HSB.out.kept q).c8
  have s9_ : ∀ w', Kept W1 w' none → w'.cell? ⟨w.heap.size, 9, none⟩ = some (.int .i64 S.low) := fun w' q => (HSB.out.kept q).c9
  have s10_ : ∀ w', Kept W1 w' none → w'.cell? ⟨w.heap.size, 10, none⟩ = some (.int .i64 S.high) := fun w' q => (HSB.out.kept q).c10
  have s11_ : ∀ w', Kept W1 w' none → w'.cell? ⟨w.heap.size, 11, none⟩ = some (.slice X.l S.plans.length X.lc) := fun w' q => (HSB.out.kept q).c11
  have hPm := hP.max
  clear h hP k1 hsb hsz hPA
  go_enter Tryd.func21, Tryd.ntmps21
  go_wp2_with (first | rw [hW1] | (go_at_call 27; have hn := rcheck_any (HSB.out.sat.kept hK0); rw [HCE.out] at hn; refine hn.mono ?_; rintro e wK ⟨rfl, hkK⟩))
  exact bodyPost_ret (v := .tuple #[.int .i64 0, .int .u8 0, .int .i64 50]) (by simp [results, Tryd.results21, go_sem]) rfl ⟨rfl, HK.out.tr hkK⟩
set_option maxRecDepth 100000 in
set_option maxHeartbeats 4000000 in
theorem rchk_many {X : Sa} {S : St} {w : World} {pa : Option Addr} {n cp : Nat} {T : List (List Nat)} (h : Sat w X S) (hP : Trc w pa n T) (hs : siteB S = true) (hn : 4096 < n) : Calls Tryd.prog 21 #[siteV X S, .slice pa n cp] w fun e w' => e = .returned (.tuple #[.int .i64 0, .int .u8 0, .int .i64 4]) ∧ Kept w w' none := by
  have HCE := Hid.mk' (checkE_yes hs)
  have k1 : Kept w (w.alloc (.cells #[.int .i64 S.id, .slice X.g S.groups.length X.gc, .slice X.a S.apart.length X.ac, .slice X.b S.between.length X.bc, .slice X.p S.phases.length X.pc, .slice X.e S.eyes.length X.ec, .int .i64 S.watch, .int .i64 S.feed, .int .i64 S.heal, .int .i64 S.low, .int .i64 S.high, .slice X.l S.plans.length X.lc] 33)) none := Kept.alloc _ _ _ _ _
  have hsb := sbox_alloc h 33
  have hsz : (w.alloc (.cells #[.int .i64 S.id, .slice X.g S.groups.length X.gc, .slice X.a S.apart.length X.ac, .slice X.b S.between.length X.bc, .slice X.p S.phases.length X.pc, .slice X.e S.eyes.length X.ec, .int .i64 S.watch, .int .i64 S.feed, .int .i64 S.heal, .int .i64 S.low, .int .i64 S.high, .slice X.l S.plans.length X.lc] 33)).heap.size = w.heap.size + 1 := by simp
  have hPA := hP.kept k1
  obtain ⟨W1, hW1⟩ : ∃ W1, w.alloc (.cells #[.int .i64 S.id, .slice X.g S.groups.length X.gc, .slice X.a S.apart.length X.ac, .slice X.b S.between.length X.bc, .slice X.p S.phases.length X.pc, .slice X.e S.eyes.length X.ec, .int .i64 S.watch, .int .i64 S.feed, .int .i64 S.heal, .int .i64 S.low, .int .i64 S.high, .slice X.l S.plans.length X.lc] 33) = W1 := ⟨_, rfl⟩
  rw [hW1] at k1 hsb hsz hPA
  have HSB := Hid.mk' hsb
  have HSZ := Hid.mk' hsz
  have HK := Hid.mk' k1
  have HP := Hid.mk' hPA
  have hK0 := Kept.refl W1 none
  have s0_ : ∀ w', Kept W1 w' none → w'.cell? ⟨w.heap.size, 0, none⟩ = some (.int .i64 S.id) := fun w' q => (HSB.out.kept q).c0
  have s1_ : ∀ w', Kept W1 w' none → w'.cell? ⟨w.heap.size, 1, none⟩ = some (.slice X.g S.groups.length X.gc) := fun w' q => (HSB.out.kept q).c1
  have s2_ : ∀ w', Kept W1 w' none → w'.cell? ⟨w.heap.size, 2, none⟩ = some (.slice X.a S.apart.length X.ac) := fun w' q => (HSB.out.kept q).c2
  have s3_ : ∀ w', Kept W1 w' none → w'.cell? ⟨w.heap.size, 3, none⟩ = some (.slice X.b S.between.length X.bc) := fun w' q => (HSB.out.kept q).c3
  have s4_ : ∀ w', Kept W1 w' none → w'.cell? ⟨w.heap.size, 4, none⟩ = some (.slice X.p S.phases.length X.pc) := fun w' q => (HSB.out.kept q).c4
  have s5_ : ∀ w', Kept W1 w' none → w'.cell? ⟨w.heap.size, 5, none⟩ = some (.slice X.e S.eyes.length X.ec) := fun w' q => (HSB.out.kept q).c5
  have s6_ : ∀ w', Kept W1 w' none → w'.cell? ⟨w.heap.size, 6, none⟩ = some (.int .i64 S.watch) := fun w' q => (HSB.out.kept q).c6
  have s7_ : ∀ w', Kept W1 w' none → w'.cell? ⟨w.heap.size, 7, none⟩ = some (.int .i64 S.feed) := fun w' q => (HSB.out.kept q).c7
  have s8_ : ∀ w', Kept W1 w' none → w'.cell? ⟨w.heap.size, 8, none⟩ = some (.int .i64 S.heal) := fun w' q => (HSB.out.kept q).c8
  have s9_ : ∀ w', Kept W1 w' none → w'.cell? ⟨w.heap.size, 9, none⟩ = some (.int .i64 S.low) := fun w' q => (HSB.out.kept q).c9
  have s10_ : ∀ w', Kept W1 w' none → w'.cell? ⟨w.heap.size, 10, none⟩ = some (.int .i64 S.high) := fun w' q => (HSB.out.kept q).c10
  have s11_ : ∀ w', Kept W1 w' none → w'.cell? ⟨w.heap.size, 11, none⟩ = some (.slice X.l S.plans.length X.lc) := fun w' q => (HSB.out.kept q).c11
  have hPm := hP.max
  clear h hP k1 hsb hsz hPA
  go_enter Tryd.func21, Tryd.ntmps21
  go_wp2_with (first | rw [hW1] | (go_at_call 27; have hn := rcheck_any (HSB.out.sat.kept hK0); rw [HCE.out] at hn; refine hn.mono ?_; rintro e wK ⟨rfl, hkK⟩))
  exact bodyPost_ret (v := .tuple #[.int .i64 0, .int .u8 0, .int .i64 4]) (by simp [results, Tryd.results21, go_sem]) rfl ⟨rfl, HK.out.tr hkK⟩
set_option maxRecDepth 100000 in
set_option maxHeartbeats 4000000 in
theorem rchk_go {X : Sa} {S : St} {w : World} {pa : Option Addr} {n cp : Nat} {T : List (List Nat)} (h : Sat w X S) (hP : Trc w pa n T) (hs : siteB S = true) (hn : n ≤ 4096) : Calls Tryd.prog 21 #[siteV X S, .slice pa n cp] w fun e w' => e = .returned (.tuple #[.int .i64 (ansN (fltV S T) n), .int .u8 (ownV (fltV S T) n), .int .i64 0]) ∧ Kept w w' none := by
  have HSH := Hid.mk' (span_may hs).base.sh
  have hng := HSH.out.ok.ng
  have HST := Hid.mk' (atV_start (T := T) hs)
  have HCE := Hid.mk' (checkE_yes hs)
  have hn4 : decide ((4096 : Int) < (n : Int)) = false := by simp; omega
  have k1 : Kept w (w.alloc (.cells #[.int .i64 S.id, .slice X.g S.groups.length X.gc, .slice X.a S.apart.length X.ac, .slice X.b S.between.length X.bc, .slice X.p S.phases.length X.pc, .slice X.e S.eyes.length X.ec, .int .i64 S.watch, .int .i64 S.feed, .int .i64 S.heal, .int .i64 S.low, .int .i64 S.high, .slice X.l S.plans.length X.lc] 33)) none := Kept.alloc _ _ _ _ _
  have hsb := sbox_alloc h 33
  have hsz : (w.alloc (.cells #[.int .i64 S.id, .slice X.g S.groups.length X.gc, .slice X.a S.apart.length X.ac, .slice X.b S.between.length X.bc, .slice X.p S.phases.length X.pc, .slice X.e S.eyes.length X.ec, .int .i64 S.watch, .int .i64 S.feed, .int .i64 S.heal, .int .i64 S.low, .int .i64 S.high, .slice X.l S.plans.length X.lc] 33)).heap.size = w.heap.size + 1 := by simp
  have hPA := hP.kept k1
  obtain ⟨W1, hW1⟩ : ∃ W1, w.alloc (.cells #[.int .i64 S.id, .slice X.g S.groups.length X.gc, .slice X.a S.apart.length X.ac, .slice X.b S.between.length X.bc, .slice X.p S.phases.length X.pc, .slice X.e S.eyes.length X.ec, .int .i64 S.watch, .int .i64 S.feed, .int .i64 S.heal, .int .i64 S.low, .int .i64 S.high, .slice X.l S.plans.length X.lc] 33) = W1 := ⟨_, rfl⟩
  rw [hW1] at k1 hsb hsz hPA
  have HSB := Hid.mk' hsb
  have HSZ := Hid.mk' hsz
  have HK := Hid.mk' k1
  have HP := Hid.mk' hPA
  have hK0 := Kept.refl W1 none
  have s0_ : ∀ w', Kept W1 w' none → w'.cell? ⟨w.heap.size, 0, none⟩ = some (.int .i64 S.id) := fun w' q => (HSB.out.kept q).c0
  have s1_ : ∀ w', Kept W1 w' none → w'.cell? ⟨w.heap.size, 1, none⟩ = some (.slice X.g S.groups.length X.gc) := fun w' q => (HSB.out.kept q).c1
  have s2_ : ∀ w', Kept W1 w' none → w'.cell? ⟨w.heap.size, 2, none⟩ = some (.slice X.a S.apart.length X.ac) := fun w' q => (HSB.out.kept q).c2
  have s3_ : ∀ w', Kept W1 w' none → w'.cell? ⟨w.heap.size, 3, none⟩ = some (.slice X.b S.between.length X.bc) := fun w' q => (HSB.out.kept q).c3
  have s4_ : ∀ w', Kept W1 w' none → w'.cell? ⟨w.heap.size, 4, none⟩ = some (.slice X.p S.phases.length X.pc) := fun w' q => (HSB.out.kept q).c4
  have s5_ : ∀ w', Kept W1 w' none → w'.cell? ⟨w.heap.size, 5, none⟩ = some (.slice X.e S.eyes.length X.ec) := fun w' q => (HSB.out.kept q).c5
  have s6_ : ∀ w', Kept W1 w' none → w'.cell? ⟨w.heap.size, 6, none⟩ = some (.int .i64 S.watch) := fun w' q => (HSB.out.kept q).c6
  have s7_ : ∀ w', Kept W1 w' none → w'.cell? ⟨w.heap.size, 7, none⟩ = some (.int .i64 S.feed) := fun w' q => (HSB.out.kept q).c7
  have s8_ : ∀ w', Kept W1 w' none → w'.cell? ⟨w.heap.size, 8, none⟩ = some (.int .i64 S.heal) := fun w' q => (HSB.out.kept q).c8
  have s9_ : ∀ w', Kept W1 w' none → w'.cell? ⟨w.heap.size, 9, none⟩ = some (.int .i64 S.low) := fun w' q => (HSB.out.kept q).c9
  have s10_ : ∀ w', Kept W1 w' none → w'.cell? ⟨w.heap.size, 10, none⟩ = some (.int .i64 S.high) := fun w' q => (HSB.out.kept q).c10
  have s11_ : ∀ w', Kept W1 w' none → w'.cell? ⟨w.heap.size, 11, none⟩ = some (.slice X.l S.plans.length X.lc) := fun w' q => (HSB.out.kept q).c11
  have hPm := hP.max
  clear h hP k1 hsb hsz hPA
  go_enter Tryd.func21, Tryd.ntmps21
  go_wp2_with (first | rw [hW1] | (go_at_call 27; have hn := rcheck_any (HSB.out.sat.kept hK0); rw [HCE.out] at hn; refine hn.mono ?_; rintro e wK ⟨rfl, hkK⟩) | (go_at_call 28; refine (rstart_any (HSB.out.sat.kept hkK) hs).mono ?_; rintro e wT ⟨a0, c0, rfl, hsf0, hkT⟩))
  have kN : Kept wT (wT.alloc (.cells #[.slice a0 S.groups.length c0, .int .i64 (worstM S), .bool false] 41)) none := Kept.alloc _ _ _ _ _
  have bN := box_alloc wT (.slice a0 S.groups.length c0) (.int .i64 (worstM S)) (.bool false) 41
  obtain ⟨W2, hW2⟩ : ∃ W2, wT.alloc (.cells #[.slice a0 S.groups.length c0, .int .i64 (worstM S), .bool false] 41) = W2 := ⟨_, rfl⟩
  rw [hW2] at kN bN ⊢
  have hsf2 := hsf0.kept kN
  have hab0 : ∀ b, a0 = some b → b.block ≠ wT.heap.size := by
    obtain ⟨b', off, rfl, hb, _⟩ := hsf0.lie.at_ (by rw [firstV_len]; omega)
    intro b e
    injection e with e
    subst e
    exact Nat.ne_of_lt hb
  have hK2 : Kept W1 W2 none := (hkK.tr hkT).tr kN
  have hbT := (hkK.tr hkT).size
  rw [HSZ.out] at hbT
  have HBT : Hid (W1.heap.size ≤ wT.heap.size) := by show _ ≤ _; rw [HSZ.out]; exact hbT
  have BN := Hid.mk' bN
  have HSF2 := Hid.mk' hsf2
  clear hW2 kN bN hsf0 hsf2 hkT hkK
  go_loopw [9, 10] (fun i _ wr => ∃ k : Nat, k ≤ n ∧ i = .int .i64 k ∧ Kept W1 wr none ∧ (∃ a c, Box wr wT.heap.size (.slice a S.groups.length c) (.int .i64 (atV S T k).start) (.bool (atV S T k).flashed) ∧ SafeAt wr a c (atV S T k) ∧ (∀ b, a = some b → b.block ≠ wT.heap.size)) ∧ ∀ j, j < k → fltV S T j = 0) (fun i _ _ => n - (intOf i).toNat)
  case atStart => exact ⟨0, by omega, rfl, hK2, ⟨a0, c0, BN.out, HSF2.out, hab0⟩, fun j hj => by omega⟩
  case round =>
    obtain ⟨k, hk, rfl, hkw, ⟨a, c, hbx, hsf, hab⟩, hno⟩ := hrel
    have HN := Hid.mk' hno
    by_cases hlt : k < n
    · obtain ⟨bp, op, rfl, hbp, hcp⟩ := HP.out.at_ (by omega)
      obtain ⟨al, cl, kc0, hB0⟩ := hcp k hlt
      have kc : ∀ w', Kept W1 w' none → w'.cell? ⟨bp, op + k, none⟩ = some (.slice al (tk T k).length cl) := fun w' q => cell_kept0 kc0 q
      have hFl := atV_len k hno
      have hSk := HST.out k
      have HFLT : Hid (fltV S T k = faultV S (atV S T k) (tk T k)) := rfl
      have HYES : Hid (fltV S T k ≠ 0 → ansN (fltV S T) n = k ∧ ownV (fltV S T) n = fltV S T k) := fun h => ⟨ansN_at hlt hno h, ownV_at hlt hno h⟩
      have HNO : Hid (fltV S T k = 0 → ∀ j, j < k + 1 → fltV S T j = 0) := fun h => ext_no hno h
      have HAT : Hid (atV S T (k + 1) = behindV S (atV S T k) (tk T k)) := rfl
      generalize tk T k = L at *
      obtain ⟨F', hF'⟩ : ∃ F', atV S T (k + 1) = F' := ⟨_, rfl⟩
      have HAT0 := Hid.mk' hF'
      rw [hF'] at HAT
      clear hF'
      generalize atV S T k = F at *
      generalize fltV S T k = z at *
      obtain ⟨G, st, fl⟩ := F
      dsimp only at hbx hSk hFl
      have HB := Hid.mk' hB0
      have HBX := Hid.mk' hbx
      have HSF := Hid.mk' hsf
      have HFL := Hid.mk' hFl
      have HZ0 := Hid.mk' HFLT.out
      have c0 := hbx.c0
      have c1 := hbx.c1
      have c2 := hbx.c2
      have hwK := HK
      clear hbx hno hcp hB0 hsf kc0 HFLT hwK
      go_wp2
      refine Code.wp_mono (Q := Rw8 ?A (fun w' => Kept wr w' none)) ?cont ?reg
      case reg =>
        repeat (rename_i hh; clear hh)
        refine wp_region_held_drew (S := fun w' => Kept W1 w' none) (by kernel_rfl) (Kept.tr hkw (Kept.drew _ _)) (fun hHeld => ?_)
        refine held_take (i := 0) (v := ?v1) rfl rfl (by kernel_rfl) (by kernel_rfl) (by kernel_rfl) (fun _ _ _ h => h) (Or.inl ⟨by rfl, ?hy1⟩) hHeld ?rest1
        case hy1 => first | (intro w hSw; (try dsimp only at hSw); go_simp; done) | (intro w hSw; (try dsimp only at hSw); go_simp; with_reducible rfl)
        try simp only [List.setIfInBounds_toArray, List.set_cons_zero, List.set_cons_succ]
        refine held_take (i := 2) (v := ?v2) rfl rfl (by kernel_rfl) (by kernel_rfl) (by kernel_rfl) (fun _ _ _ h => h) (Or.inl ⟨by rfl, ?hy2⟩) hHeld ?rest2
        case hy2 => first | (intro w hSw; (try dsimp only at hSw); go_simp; done) | (intro w hSw; (try dsimp only at hSw); go_simp; with_reducible rfl)
        try simp only [List.setIfInBounds_toArray, List.set_cons_zero, List.set_cons_succ]
        refine held_take (i := 3) (v := ?v3) rfl rfl (by kernel_rfl) (by kernel_rfl) (by kernel_rfl) (fun _ _ _ h => h) (Or.inl ⟨by rfl, ?hy3⟩) hHeld ?rest3
        case hy3 => first | (intro w hSw; (try dsimp only at hSw); go_simp; done) | (intro w hSw; (try dsimp only at hSw); go_simp; with_reducible rfl)
        try simp only [List.setIfInBounds_toArray, List.set_cons_zero, List.set_cons_succ]
        refine held_take (i := 4) (v := ?v4) rfl rfl (by kernel_rfl) (by kernel_rfl) (by kernel_rfl) (fun _ _ _ h => h) (Or.inl ⟨by rfl, ?hy4⟩) hHeld ?rest4
        case hy4 => first | (intro w hSw; (try dsimp only at hSw); go_simp; done) | (intro w hSw; (try dsimp only at hSw); go_simp; with_reducible rfl)
        try simp only [List.setIfInBounds_toArray, List.set_cons_zero, List.set_cons_succ]
        refine held_take (i := 5) (v := ?v5) rfl rfl (by kernel_rfl) (by kernel_rfl) (by kernel_rfl) (fun _ _ _ h => h) (Or.inl ⟨by rfl, ?hy5⟩) hHeld ?rest5
        case hy5 => first | (intro w hSw; (try dsimp only at hSw); go_simp; done) | (intro w hSw; (try dsimp only at hSw); go_simp; with_reducible rfl)
        try simp only [List.setIfInBounds_toArray, List.set_cons_zero, List.set_cons_succ]
        refine wpAnyH_ready (rs := [1]) (by kernel_rfl) (by simp) ?_
        refine AllReadyH.cons rfl (fun K hK => ?_) AllReadyH.nil
        go_simp
        refine hK.out _ _ hHeld (fun hHeld => ?_)
        clear hK K
        refine wpAnyH_ready (rs := [6]) (by kernel_rfl) (by simp) ?_
        refine AllReadyH.cons rfl (fun K hK => ?_) AllReadyH.nil
        go_simp
        go_wp2_with (go_at_call 33; refine (rfault_any (F := ⟨G, st, fl⟩) (HSB.out.sat.kept hHeld) HSH.out (HSF.out.kept (Kept.drew _ _)) HFL.out (HB.out.kept hHeld)).mono ?_; rintro e wS ⟨rfl, hkS⟩; rw [← HZ0.out])
        have hk1 : Kept wr wS none := Kept.tr (Kept.drew _ _) hkS
        refine hK.out _ _ (hHeld.tr hkS) (fun hHeld => ?_)
        clear hK K
        refine held_take (i := 7) (v := ?v6) rfl rfl (by kernel_rfl) (by kernel_rfl) (by kernel_rfl) (fun _ _ _ h => h) (Or.inl ⟨by rfl, ?hy6⟩) hHeld ?rest6
        case hy6 => first | (intro w hSw; (try dsimp only at hSw); go_simp; done) | (intro w hSw; (try dsimp only at hSw); go_simp; with_reducible rfl)
        try simp only [List.setIfInBounds_toArray, List.set_cons_zero, List.set_cons_succ]
        refine wpAnyH_done (by kernel_rfl) ?_ _
        refine And.intro ?_ hk1
        with_reducible rfl
      case cont =>
      intro e a' wS hq'
      obtain ⟨rfl, rfl, hkS⟩ := hq'.out
      clear hq' c0 c1 c2
      by_cases hz : z = 0
      · have hLl := fault_len (HZ0.out.symm.trans hz)
        have HN2 := Hid.mk' (HNO.out hz)
        have hkWS : Kept W1 wS none := hkw.tr hkS
        obtain ⟨bf, off, rfl, _, hcf⟩ := HSF.out.lie.at_ (by dsimp only; omega)
        have hcr : S.groups.length ≤ c := by have := HSF.out.cap.room; dsimp only at this; omega
        have hcm := HSF.out.cap.max
        have HCF : Hid (∀ i, i < S.groups.length → ∀ j, j < 3 → wS.cell? ⟨bf, off + i * 3 + j, none⟩ = some (snV (Sf.g ⟨G, st, fl⟩ i) j)) := fun i hi j hj => cell_kept0 (hcf i (by dsimp only; omega) j hj) hkS
        have HB2 : Hid (By wS al S.groups.length L) := by show By _ _ _ _; rw [← hLl]; exact HB.out.kept hkWS
        obtain ⟨bl, ol, el, _, hcl⟩ := HB2.out.at_ (by omega)
        subst el
        have HCL := Hid.mk' hcl
        have HBS := Hid.mk' (HBX.out.kept hkS)
        rw [hLl] at kc
        have hcm' := hcm
        try dsimp only at hcm'
        clear hcf hcl HNO HYES HZ0 hcm
        have hcm : c ≤ 9223372036854775807 := hcm'
        clear hcm'
        have c0 := HBS.out.c0
        have c1 := HBS.out.c1
        have c2 := HBS.out.c2
        subst hz
        clear hLl hFl
        go_wp2
        refine Code.wp_mono (Q := Rv8 ?A2 (fun w' => Kept W1 w' none ∧ ∃ a c, Box w' wT.heap.size (.slice a S.groups.length c) (.int .i64 (startV S ⟨G, st, fl⟩ L)) (.bool (allIs L 4)) ∧ SafeAt w' a c (behindV S ⟨G, st, fl⟩ L) ∧ (∀ b, a = some b → b.block ≠ wT.heap.size))) ?cont2 ?reg2
        case reg2 =>
          repeat (rename_i hh; clear hh)
          refine wp_region_held_drew (S := fun w' => Kept W1 w' none) (by kernel_rfl) (Kept.tr hkWS (Kept.drew _ _)) (fun hHeld => ?_)
          refine held_take (i := 0) (v := ?v7) rfl rfl (by kernel_rfl) (by kernel_rfl) (by kernel_rfl) (fun _ _ _ h => h) (Or.inl ⟨by rfl, ?hy7⟩) hHeld ?rest7
          case hy7 => first | (intro w hSw; (try dsimp only at hSw); go_simp; done) | (intro w hSw; (try dsimp only at hSw); go_simp; with_reducible rfl)
          try simp only [List.setIfInBounds_toArray, List.set_cons_zero, List.set_cons_succ]
          refine held_take (i := 2) (v := ?v8) rfl rfl (by kernel_rfl) (by kernel_rfl) (by kernel_rfl) (fun _ _ _ h => h) (Or.inl ⟨by rfl, ?hy8⟩) hHeld ?rest8
          case hy8 => first | (intro w hSw; (try dsimp only at hSw); go_simp; done) | (intro w hSw; (try dsimp only at hSw); go_simp; with_reducible rfl)
          try simp only [List.setIfInBounds_toArray, List.set_cons_zero, List.set_cons_succ]
          refine held_take (i := 3) (v := ?v9) rfl rfl (by kernel_rfl) (by kernel_rfl) (by kernel_rfl) (fun _ _ _ h => h) (Or.inl ⟨by rfl, ?hy9⟩) hHeld ?rest9
          case hy9 => first | (intro w hSw; (try dsimp only at hSw); go_simp; done) | (intro w hSw; (try dsimp only at hSw); go_simp; with_reducible rfl)
          try simp only [List.setIfInBounds_toArray, List.set_cons_zero, List.set_cons_succ]
          refine held_take (i := 4) (v := ?v10) rfl rfl (by kernel_rfl) (by kernel_rfl) (by kernel_rfl) (fun _ _ _ h => h) (Or.inl ⟨by rfl, ?hy10⟩) hHeld ?rest10
          case hy10 => first | (intro w hSw; (try dsimp only at hSw); go_simp; done) | (intro w hSw; (try dsimp only at hSw); go_simp; with_reducible rfl)
          try simp only [List.setIfInBounds_toArray, List.set_cons_zero, List.set_cons_succ]
          refine held_take (i := 5) (v := ?v11) rfl rfl (by kernel_rfl) (by kernel_rfl) (by kernel_rfl) (fun _ _ _ h => h) (Or.inl ⟨by rfl, ?hy11⟩) hHeld ?rest11
          case hy11 => first | (intro w hSw; (try dsimp only at hSw); go_simp; done) | (intro w hSw; (try dsimp only at hSw); go_simp; with_reducible rfl)
          try simp only [List.setIfInBounds_toArray, List.set_cons_zero, List.set_cons_succ]
          refine wpAnyH_ready (rs := [1]) (by kernel_rfl) (by simp) ?_
          refine AllReadyH.cons rfl (fun K hK => ?_) AllReadyH.nil
          go_simp
          refine hK.out _ _ hHeld (fun hHeld => ?_)
          clear hK K
          refine wpAnyH_ready (rs := [6]) (by kernel_rfl) (by simp) ?_
          refine AllReadyH.cons rfl (fun K hK => ?_) AllReadyH.nil
          go_simp
          go_wp2_with (go_at_call 34; refine (rbehind_any (HSB.out.sat.kept hHeld) hs (fun i hi j hj => cell_kept0 (HCF.out i hi j hj) (Kept.drew _ _)) hcr hcm hSk (fun i hi => cell_kept0 (HCL.out i hi) (Kept.drew _ _)) (HB2.out.kept (Kept.drew _ _))).mono ?_; rintro e wB ⟨a5, c5, rfl, hsf5, hown5, hkB⟩)
          have hk5 : Kept wS wB none := Kept.tr (Kept.drew _ _) hkB
          have hW5 : Kept W1 wB none := hkWS.tr hk5
          refine hK.out _ _ (hHeld.tr hkB) (fun hHeld => ?_)
          clear hK K
          have bx5 := HBS.out.kept hk5
          have d0 := bx5.c0
          have d1 := bx5.c1
          have d2 := bx5.c2
          have e0 := bx5.f0
          have e1 := bx5.f1
          have e2 := bx5.f2
          refine wpAnyH_ready (rs := [7]) (by kernel_rfl) (by simp) ?_
          refine AllReadyH.cons rfl (fun K hK => ?_) AllReadyH.nil
          go_simp
          refine hK.out _ _ (((hW5.setNew (p := ⟨wT.heap.size, 0, none⟩) HBT.out _).setNew (p := ⟨wT.heap.size, 1, none⟩) HBT.out _).setNew (p := ⟨wT.heap.size, 2, none⟩) HBT.out _) (fun hHeld => ?_)
          clear hK K
          refine wpAnyH_done (by kernel_rfl) ?_ _
          have hne : ∀ b, a5 = some b → b.block ≠ wT.heap.size := fun b e => by
            have h1 : wS.heap.size ≤ b.block := hown5 b e
            have h2 := HBS.out.lt
            omega
          refine ⟨.agg #[.slice a5 S.groups.length c5, .int .i64 (startV S ⟨G, st, fl⟩ L), .bool (allIs L 4)], .bool true, ?eqE, hHeld, a5, c5, ((bx5.set0 _).set1 _).set2 _, ((hsf5.set _ hne _ _).set _ hne _ _).set _ hne _ _, hne⟩
          generalize Value.agg #[.slice a5 S.groups.length c5, .int .i64 (startV S ⟨G, st, fl⟩ L), .bool (allIs L 4)] = u1
          generalize (Value.bool true) = u2
          with_reducible rfl
        case cont2 =>
        intro e a' w' hq'
        obtain ⟨rfl, u1, u2, rfl, hkq, a7, c7, hb7, hs7, hn7⟩ := hq'.out
        go_wp2
        go_roundw
        case rel =>
          refine ⟨k + 1, by omega, by go_num, hkq, ⟨a7, c7, ?_, ?_, hn7⟩, HN2.out⟩
          · rw [HAT0.out, HAT.out]; exact hb7
          · rw [HAT0.out, HAT.out]; exact hs7
        case measure => simp [intOf]; omega
      · have HY := Hid.mk' (HYES.out hz)
        have hzb : (z != 0) = true := by simpa using hz
        clear hz HNO HYES
        go_wp2
        exact bodyPost_ret (v := .tuple #[.int .i64 (k : Int), .int .u8 z, .int .i64 0]) (by simp [results, Tryd.results21, go_sem]) rfl ⟨by rw [HY.out.1, HY.out.2], HK.out.tr (hkw.tr hkS)⟩
    · have e : k = n := by omega
      subst e
      have HY := Hid.mk' (⟨ansN_no HN.out, ownV_no HN.out⟩ : ansN (fltV S T) k = -1 ∧ ownV (fltV S T) k = 0)
      clear hbx hsf hno
      go_wp2
      exact bodyPost_ret (v := .tuple #[.int .i64 (-1), .int .u8 0, .int .i64 0]) (by simp [results, Tryd.results21, go_sem]) rfl ⟨by rw [HY.out.1, HY.out.2], HK.out.tr hkw⟩

end Go.Proofs.YtpnmlgillphodaaDoor

