/-
  Texts joined: some of those that the proofs of this seat stand on.
-/
import Derived.Test.YtpnmlgillphodaaDoorRefC8
import Derived.Test.YtpnmlgillphodaaDoorSafeKJ
import Derived.Test.YtpnmlgillphodaaDoorRefG
/-
  THE WALK of SafeTraces (made by a program).
-/
namespace Go.Proofs.YtpnmlgillphodaaDoor
open Go.RowKit Go.Lib Go.Deep
set_option linter.unusedVariables false
set_option linter.unusedSimpArgs false

theorem check_both {X : Sa} {S : St} {w : World} {pa : Option Addr} {n cp : Nat} {T : List (List Nat)} (h : Sat w X S) (hT : Tabb w) (hP : Trc w pa n T) : ∃ x y z : Int, (∀ w', Kept w w' none → Calls Tryd.prog 9 #[siteV X S, .slice pa n cp] w' fun e w2 => e = .returned (.tuple #[.int .i64 x, .int .u8 y, .int .i64 z]) ∧ Kept w' w2 none) ∧ (∀ w', Kept w w' none → Calls Tryd.prog 21 #[siteV X S, .slice pa n cp] w' fun e w2 => e = .returned (.tuple #[.int .i64 x, .int .u8 y, .int .i64 z]) ∧ Kept w' w2 none) := by
  cases hs : siteB S with
  | false => exact ⟨_, _, _, fun w' q => check_no (h.kept q) (hT.kept q) (hP.kept q) hs, fun w' q => rchk_no (h.kept q) (hP.kept q) hs⟩
  | true =>
    by_cases hn : 4096 < n
    · exact ⟨_, _, _, fun w' q => check_many (h.kept q) (hT.kept q) (hP.kept q) hs hn, fun w' q => rchk_many (h.kept q) (hP.kept q) hs hn⟩
    · exact ⟨_, _, _, fun w' q => check_go (h.kept q) (hT.kept q) (hP.kept q) hs (by omega), fun w' q => rchk_go (h.kept q) (hP.kept q) hs (by omega)⟩
set_option maxRecDepth 100000 in
set_option maxHeartbeats 4000000 in
theorem tra_few {X : Sa} {S : St} {w : World} {pa : Option Addr} {n cp : Nat} {T : List (List Nat)} (h : Sat w X S) (hT : Tabb w) (hP : Trc w pa n T) (hn : n ≤ 300) : Calls Tryd.prog 5 #[siteV X S, .slice pa n cp] w fun e w' => e = .returned (.bool true) ∧ Below w.heap.size w w' := by
  have k1 : Kept w (w.alloc (.cells #[.int .i64 S.id, .slice X.g S.groups.length X.gc, .slice X.a S.apart.length X.ac, .slice X.b S.between.length X.bc, .slice X.p S.phases.length X.pc, .slice X.e S.eyes.length X.ec, .int .i64 S.watch, .int .i64 S.feed, .int .i64 S.heal, .int .i64 S.low, .int .i64 S.high, .slice X.l S.plans.length X.lc] 33)) none := Kept.alloc _ _ _ _ _
  have hsb := sbox_alloc h 33
  obtain ⟨x, y, z, hc1, hc2⟩ := check_both (cp := cp) h hT hP
  have HC1 := Hid.mk' hc1
  have HC2 := Hid.mk' hc2
  have HS := Hid.mk' h
  have HP := Hid.mk' hP
  have hPm := hP.max
  obtain ⟨W1, hW1⟩ : ∃ W1, w.alloc (.cells #[.int .i64 S.id, .slice X.g S.groups.length X.gc, .slice X.a S.apart.length X.ac, .slice X.b S.between.length X.bc, .slice X.p S.phases.length X.pc, .slice X.e S.eyes.length X.ec, .int .i64 S.watch, .int .i64 S.feed, .int .i64 S.heal, .int .i64 S.low, .int .i64 S.high, .slice X.l S.plans.length X.lc] 33) = W1 := ⟨_, rfl⟩
  rw [hW1] at k1 hsb
  have HSB := Hid.mk' hsb
  have HK := Hid.mk' k1
  have hK0 := Kept.refl W1 none
  have s0_ : ∀ w', Kept W1 w' none → w'.cell? ⟨w.heap.size, 0, none⟩ = some (.int .i64 S.id) := fun w' q => (HSB.out.kept q).c0
  have s1_ : ∀ w', Kept W1 w' none → w'.cell? ⟨w.heap.size, 1, none⟩ = some (.slice X.g S.groups.length X.gc) := fun w' q => (HSB.out.kept q).c1
  have s2_ : ∀ w', Kept W1 w' none → w'.cell? ⟨w.heap.size, 2, none⟩ = some (.slice X.a S.apart.length X.ac) := fun w' q => (HSB.out.kept q).c2
  have s3_ : ∀ w', Kept W1 w' none → w'.cell? ⟨w.heap.size, 3, none⟩ = some (.slice X.b S.between.length X.bc) := fun w' q => (HSB.out.kept q).c3
  have s4_ : ∀ w', Kept W1 w' none → w'.cell? ⟨w.heap.size, 4, none⟩ = some (.slice X.p S.phases.length X.pc) := fun w' q => (HSB.out.kept q).c4
  have s5_ : ∀ w', Kept W1 w' none → w'.cell? ⟨w.heap.size, 5, none⟩ = some (.slice X.e S.eyes.length X.ec) := fun w' q => (HSB.out.kept q).c5
  have s6_ : ∀ w', Kept W1 w' none → w'.cell? ⟨w.heap.size, 6, none⟩ = some (.int .i64 S.watch) := fun w' q => (HSB.out.kept q).c6
  have s7_ : ∀ w', Kept W1 w' none → w'.cell? ⟨w.heap.size, 7, none⟩ = some (.int .i64 S.feed) := fun w' q => (HSB.out.kept q).c7
  have s8_ : ∀ w', Kept W1 w' none → w'.cell? ⟨w.heap.size, 8, none⟩ = some (.int .i64 S.heal) := fun w' q => (HSB.out.kept q).c8
  have s9_ : ∀ w', Kept W1 w' none → w'.cell? ⟨w.heap.size, 9, none⟩ = some (.int .i64 S.low) := fun w' q => (HSB.out.kept q).c9
  have s10_ : ∀ w', Kept W1 w' none → w'.cell? ⟨w.heap.size, 10, none⟩ = some (.int .i64 S.high) := fun w' q => (HSB.out.kept q).c10
  have s11_ : ∀ w', Kept W1 w' none → w'.cell? ⟨w.heap.size, 11, none⟩ = some (.slice X.l S.plans.length X.lc) := fun w' q => (HSB.out.kept q).c11
  clear h hT hP k1 hsb hc1 hc2
  go_enter Tryd.func5, Tryd.ntmps5
  go_wp2_with (first | rw [hW1])
  go_at_call 14
  refine (rgreat_any (HS.out.kept HK.out)).mono ?_
  rintro e wg ⟨gr, rfl, hgr, hkg⟩
  have hKg : Kept W1 wg none := hkg
  clear hgr
  cases gr with
  | true =>
    go_wp2
    go_ret
    exact ⟨rfl, (HK.out.tr hKg).below⟩
  | false =>
  have h300b : decide ((300 : Int) < (n : Int)) = false := by simp; omega
  have h5000b : decide ((5000 : Int) < (n : Int)) = false := by simp; omega
  go_wp2
  go_loopw [5] (fun i wr => ∃ k : Nat, k ≤ n ∧ i = .int .i64 k ∧ wr = wg) (fun i _ => n - (intOf i).toNat)
  case atStart => exact ⟨0, by omega, rfl, rfl⟩
  case round =>
    obtain ⟨k, hk, rfl, rfl⟩ := hrel
    by_cases hlt : k < n
    · obtain ⟨bp, op, rfl, hbp, hcp⟩ := HP.out.at_ (by omega)
      obtain ⟨al, cl, kc0, hB0⟩ := hcp k hlt
      have kc := cell_kept0 kc0 (HK.out.tr hKg)
      clear hcp kc0 hB0
      generalize (tk T k).length = m at *
      by_cases hm : (100 : Int) < (m : Int)
      · go_wp2
        go_ret
        exact ⟨rfl, (HK.out.tr hKg).below⟩
      · have hmb : decide ((100 : Int) < (m : Int)) = false := by simp; omega
        clear hm
        go_wp2
        go_roundw
        case rel => exact ⟨k + 1, by omega, by go_num, by first | trivial | rfl⟩
        case measure => simp [intOf]; omega
    · have e : k = n := by omega
      subst e
      go_wp2_with (first
        | (go_at_call 9; refine (HC1.out _ (HK.out.tr hKg)).mono ?_; rintro e w2 ⟨rfl, hk2⟩; have hK2 : Kept W1 w2 none := hKg.tr hk2)
        | (go_at_call 21; refine (HC2.out _ (HK.out.tr hK2)).mono ?_; rintro e w3 ⟨rfl, hk3⟩))
      go_ret
      exact ⟨rfl, (HK.out.tr (hK2.tr hk3)).below⟩
set_option maxRecDepth 100000 in
set_option maxHeartbeats 4000000 in
theorem tra_many {X : Sa} {S : St} {w : World} {pa : Option Addr} {n cp : Nat} {T : List (List Nat)} (h : Sat w X S) (hT : Tabb w) (hP : Trc w pa n T) (hn : 4096 < n) (hn5 : n ≤ 5000) : Calls Tryd.prog 5 #[siteV X S, .slice pa n cp] w fun e w' => e = .returned (.bool true) ∧ Below w.heap.size w w' := by
  have k1 : Kept w (w.alloc (.cells #[.int .i64 S.id, .slice X.g S.groups.length X.gc, .slice X.a S.apart.length X.ac, .slice X.b S.between.length X.bc, .slice X.p S.phases.length X.pc, .slice X.e S.eyes.length X.ec, .int .i64 S.watch, .int .i64 S.feed, .int .i64 S.heal, .int .i64 S.low, .int .i64 S.high, .slice X.l S.plans.length X.lc] 33)) none := Kept.alloc _ _ _ _ _
  have hsb := sbox_alloc h 33
  obtain ⟨x, y, z, hc1, hc2⟩ := check_both (cp := cp) h hT hP
  have HC1 := Hid.mk' hc1
  have HC2 := Hid.mk' hc2
  have HS := Hid.mk' h
  have HP := Hid.mk' hP
  have hPm := hP.max
  obtain ⟨W1, hW1⟩ : ∃ W1, w.alloc (.cells #[.int .i64 S.id, .slice X.g S.groups.length X.gc, .slice X.a S.apart.length X.ac, .slice X.b S.between.length X.bc, .slice X.p S.phases.length X.pc, .slice X.e S.eyes.length X.ec, .int .i64 S.watch, .int .i64 S.feed, .int .i64 S.heal, .int .i64 S.low, .int .i64 S.high, .slice X.l S.plans.length X.lc] 33) = W1 := ⟨_, rfl⟩
  rw [hW1] at k1 hsb
  have HSB := Hid.mk' hsb
  have HK := Hid.mk' k1
  have hK0 := Kept.refl W1 none
  have s0_ : ∀ w', Kept W1 w' none → w'.cell? ⟨w.heap.size, 0, none⟩ = some (.int .i64 S.id) := fun w' q => (HSB.out.kept q).c0
  have s1_ : ∀ w', Kept W1 w' none → w'.cell? ⟨w.heap.size, 1, none⟩ = some (.slice X.g S.groups.length X.gc) := fun w' q => (HSB.out.kept q).c1
  have s2_ : ∀ w', Kept W1 w' none → w'.cell? ⟨w.heap.size, 2, none⟩ = some (.slice X.a S.apart.length X.ac) := fun w' q => (HSB.out.kept q).c2
  have s3_ : ∀ w', Kept W1 w' none → w'.cell? ⟨w.heap.size, 3, none⟩ = some (.slice X.b S.between.length X.bc) := fun w' q => (HSB.out.kept q).c3
  have s4_ : ∀ w', Kept W1 w' none → w'.cell? ⟨w.heap.size, 4, none⟩ = some (.slice X.p S.phases.length X.pc) := fun w' q => (HSB.out.kept q).c4
  have s5_ : ∀ w', Kept W1 w' none → w'.cell? ⟨w.heap.size, 5, none⟩ = some (.slice X.e S.eyes.length X.ec) := fun w' q => (HSB.out.kept q).c5
  have s6_ : ∀ w', Kept W1 w' none → w'.cell? ⟨w.heap.size, 6, none⟩ = some (.int .i64 S.watch) := fun w' q => (HSB.out.kept q).c6
  have s7_ : ∀ w', Kept W1 w' none → w'.cell? ⟨w.heap.size, 7, none⟩ = some (.int .i64 S.feed) := fun w' q => (HSB.out.kept q).c7
  have s8_ : ∀ w', Kept W1 w' none → w'.cell? ⟨w.heap.size, 8, none⟩ = some (.int .i64 S.heal) := fun w' q => (HSB.out.kept q).c8
  have s9_ : ∀ w', Kept W1 w' none → w'.cell? ⟨w.heap.size, 9, none⟩ = some (.int .i64 S.low) := fun w' q => (HSB.out.kept q).c9
  have s10_ : ∀ w', Kept W1 w' none → w'.cell? ⟨w.heap.size, 10, none⟩ = some (.int .i64 S.high) := fun w' q => (HSB.out.kept q).c10
  have s11_ : ∀ w', Kept W1 w' none → w'.cell? ⟨w.heap.size, 11, none⟩ = some (.slice X.l S.plans.length X.lc) := fun w' q => (HSB.out.kept q).c11
  clear h hT hP k1 hsb hc1 hc2
  go_enter Tryd.func5, Tryd.ntmps5
  go_wp2_with (first | rw [hW1])
  go_at_call 14
  refine (rgreat_any (HS.out.kept HK.out)).mono ?_
  rintro e wg ⟨gr, rfl, hgr, hkg⟩
  have hKg : Kept W1 wg none := hkg
  clear hgr
  cases gr with
  | true =>
    go_wp2
    go_ret
    exact ⟨rfl, (HK.out.tr hKg).below⟩
  | false =>
  have h300b : decide ((300 : Int) < (n : Int)) = true := by simp; omega
  have h4096b : decide ((n : Int) ≤ (4096 : Int)) = false := by simp; omega
  have h5000b : decide ((5000 : Int) < (n : Int)) = false := by simp; omega
  go_wp2
  go_loopw [5] (fun i wr => ∃ k : Nat, k ≤ n ∧ i = .int .i64 k ∧ wr = wg) (fun i _ => n - (intOf i).toNat)
  case atStart => exact ⟨0, by omega, rfl, rfl⟩
  case round =>
    obtain ⟨k, hk, rfl, rfl⟩ := hrel
    by_cases hlt : k < n
    · obtain ⟨bp, op, rfl, hbp, hcp⟩ := HP.out.at_ (by omega)
      obtain ⟨al, cl, kc0, hB0⟩ := hcp k hlt
      have kc := cell_kept0 kc0 (HK.out.tr hKg)
      clear hcp kc0 hB0
      generalize (tk T k).length = m at *
      by_cases hm : (100 : Int) < (m : Int)
      · go_wp2
        go_ret
        exact ⟨rfl, (HK.out.tr hKg).below⟩
      · have hmb : decide ((100 : Int) < (m : Int)) = false := by simp; omega
        clear hm
        go_wp2
        go_roundw
        case rel => exact ⟨k + 1, by omega, by go_num, by first | trivial | rfl⟩
        case measure => simp [intOf]; omega
    · have e : k = n := by omega
      subst e
      go_wp2_with (first
        | (go_at_call 9; refine (HC1.out _ (HK.out.tr hKg)).mono ?_; rintro e w2 ⟨rfl, hk2⟩; have hK2 : Kept W1 w2 none := hKg.tr hk2)
        | (go_at_call 21; refine (HC2.out _ (HK.out.tr hK2)).mono ?_; rintro e w3 ⟨rfl, hk3⟩))
      go_ret
      exact ⟨rfl, (HK.out.tr (hK2.tr hk3)).below⟩
set_option maxRecDepth 100000 in
set_option maxHeartbeats 4000000 in
theorem tra_mid {X : Sa} {S : St} {w : World} {pa : Option Addr} {n cp : Nat} {T : List (List Nat)} (h : Sat w X S) (hT : Tabb w) (hP : Trc w pa n T) (hn : 300 < n) (hn4 : n ≤ 4096) : Calls Tryd.prog 5 #[siteV X S, .slice pa n cp] w fun e w' => e = .returned (.bool true) ∧ Below w.heap.size w w' := by
  have k1 : Kept w (w.alloc (.cells #[.int .i64 S.id, .slice X.g S.groups.length X.gc, .slice X.a S.apart.length X.ac, .slice X.b S.between.length X.bc, .slice X.p S.phases.length X.pc, .slice X.e S.eyes.length X.ec, .int .i64 S.watch, .int .i64 S.feed, .int .i64 S.heal, .int .i64 S.low, .int .i64 S.high, .slice X.l S.plans.length X.lc] 33)) none := Kept.alloc _ _ _ _ _
  have hsb := sbox_alloc h 33
  obtain ⟨x, y, z, hc1, hc2⟩ := check_both (cp := cp) h hT hP
  have HC1 := Hid.mk' hc1
  have HC2 := Hid.mk' hc2
  have HS := Hid.mk' h
  have HP := Hid.mk' hP
  have hPm := hP.max
  obtain ⟨W1, hW1⟩ : ∃ W1, w.alloc (.cells #[.int .i64 S.id, .slice X.g S.groups.length X.gc, .slice X.a S.apart.length X.ac, .slice X.b S.between.length X.bc, .slice X.p S.phases.length X.pc, .slice X.e S.eyes.length X.ec, .int .i64 S.watch, .int .i64 S.feed, .int .i64 S.heal, .int .i64 S.low, .int .i64 S.high, .slice X.l S.plans.length X.lc] 33) = W1 := ⟨_, rfl⟩
  rw [hW1] at k1 hsb
  have HSB := Hid.mk' hsb
  have HK := Hid.mk' k1
  have hK0 := Kept.refl W1 none
  have s0_ : ∀ w', Kept W1 w' none → w'.cell? ⟨w.heap.size, 0, none⟩ = some (.int .i64 S.id) := fun w' q => (HSB.out.kept q).c0
  have s1_ : ∀ w', Kept W1 w' none → w'.cell? ⟨w.heap.size, 1, none⟩ = some (.slice X.g S.groups.length X.gc) := fun w' q => (HSB.out.kept q).c1
  have s2_ : ∀ w', Kept W1 w' none → w'.cell? ⟨w.heap.size, 2, none⟩ = some (.slice X.a S.apart.length X.ac) := fun w' q => (HSB.out.kept q).c2
  have s3_ : ∀ w', Kept W1 w' none → w'.cell? ⟨w.heap.size, 3, none⟩ = some (.slice X.b S.between.length X.bc) := fun w' q => (HSB.out.kept q).c3
  have s4_ : ∀ w', Kept W1 w' none → w'.cell? ⟨w.heap.size, 4, none⟩ = some (.slice X.p S.phases.length X.pc) := fun w' q => (HSB.out.kept q).c4
  have s5_ : ∀ w', Kept W1 w' none → w'.cell? ⟨w.heap.size, 5, none⟩ = some (.slice X.e S.eyes.length X.ec) := fun w' q => (HSB.out.kept q).c5
  have s6_ : ∀ w', Kept W1 w' none → w'.cell? ⟨w.heap.size, 6, none⟩ = some (.int .i64 S.watch) := fun w' q => (HSB.out.kept q).c6
  have s7_ : ∀ w', Kept W1 w' none → w'.cell? ⟨w.heap.size, 7, none⟩ = some (.int .i64 S.feed) := fun w' q => (HSB.out.kept q).c7
  have s8_ : ∀ w', Kept W1 w' none → w'.cell? ⟨w.heap.size, 8, none⟩ = some (.int .i64 S.heal) := fun w' q => (HSB.out.kept q).c8
  have s9_ : ∀ w', Kept W1 w' none → w'.cell? ⟨w.heap.size, 9, none⟩ = some (.int .i64 S.low) := fun w' q => (HSB.out.kept q).c9
  have s10_ : ∀ w', Kept W1 w' none → w'.cell? ⟨w.heap.size, 10, none⟩ = some (.int .i64 S.high) := fun w' q => (HSB.out.kept q).c10
  have s11_ : ∀ w', Kept W1 w' none → w'.cell? ⟨w.heap.size, 11, none⟩ = some (.slice X.l S.plans.length X.lc) := fun w' q => (HSB.out.kept q).c11
  clear h hT hP k1 hsb hc1 hc2
  go_enter Tryd.func5, Tryd.ntmps5
  go_wp2_with (first | rw [hW1])
  go_at_call 14
  refine (rgreat_any (HS.out.kept HK.out)).mono ?_
  rintro e wg ⟨gr, rfl, hgr, hkg⟩
  have hKg : Kept W1 wg none := hkg
  clear hgr
  cases gr with
  | true =>
    go_wp2
    go_ret
    exact ⟨rfl, (HK.out.tr hKg).below⟩
  | false =>
  have h300b : decide ((300 : Int) < (n : Int)) = true := by simp; omega
  have h4096b : decide ((n : Int) ≤ (4096 : Int)) = true := by simp; omega
  go_wp2
  go_ret
  exact ⟨rfl, (HK.out.tr hKg).below⟩
set_option maxRecDepth 100000 in
set_option maxHeartbeats 4000000 in
theorem tra_over {X : Sa} {S : St} {w : World} {pa : Option Addr} {n cp : Nat} {T : List (List Nat)} (h : Sat w X S) (hT : Tabb w) (hP : Trc w pa n T) (hn : 5000 < n) : Calls Tryd.prog 5 #[siteV X S, .slice pa n cp] w fun e w' => e = .returned (.bool true) ∧ Below w.heap.size w w' := by
  have k1 : Kept w (w.alloc (.cells #[.int .i64 S.id, .slice X.g S.groups.length X.gc, .slice X.a S.apart.length X.ac, .slice X.b S.between.length X.bc, .slice X.p S.phases.length X.pc, .slice X.e S.eyes.length X.ec, .int .i64 S.watch, .int .i64 S.feed, .int .i64 S.heal, .int .i64 S.low, .int .i64 S.high, .slice X.l S.plans.length X.lc] 33)) none := Kept.alloc _ _ _ _ _
  have hsb := sbox_alloc h 33
  obtain ⟨x, y, z, hc1, hc2⟩ := check_both (cp := cp) h hT hP
  have HC1 := Hid.mk' hc1
  have HC2 := Hid.mk' hc2
  have HS := Hid.mk' h
  have HP := Hid.mk' hP
  have hPm := hP.max
  obtain ⟨W1, hW1⟩ : ∃ W1, w.alloc (.cells #[.int .i64 S.id, .slice X.g S.groups.length X.gc, .slice X.a S.apart.length X.ac, .slice X.b S.between.length X.bc, .slice X.p S.phases.length X.pc, .slice X.e S.eyes.length X.ec, .int .i64 S.watch, .int .i64 S.feed, .int .i64 S.heal, .int .i64 S.low, .int .i64 S.high, .slice X.l S.plans.length X.lc] 33) = W1 := ⟨_, rfl⟩
  rw [hW1] at k1 hsb
  have HSB := Hid.mk' hsb
  have HK := Hid.mk' k1
  have hK0 := Kept.refl W1 none
  have s0_ : ∀ w', Kept W1 w' none → w'.cell? ⟨w.heap.size, 0, none⟩ = some (.int .i64 S.id) := fun w' q => (HSB.out.kept q).c0
  have s1_ : ∀ w', Kept W1 w' none → w'.cell? ⟨w.heap.size, 1, none⟩ = some (.slice X.g S.groups.length X.gc) := fun w' q => (HSB.out.kept q).c1
  have s2_ : ∀ w', Kept W1 w' none → w'.cell? ⟨w.heap.size, 2, none⟩ = some (.slice X.a S.apart.length X.ac) := fun w' q => (HSB.out.kept q).c2
  have s3_ : ∀ w', Kept W1 w' none → w'.cell? ⟨w.heap.size, 3, none⟩ = some (.slice X.b S.between.length X.bc) := fun w' q => (HSB.out.kept q).c3
  have s4_ : ∀ w', Kept W1 w' none → w'.cell? ⟨w.heap.size, 4, none⟩ = some (.slice X.p S.phases.length X.pc) := fun w' q => (HSB.out.kept q).c4
  have s5_ : ∀ w', Kept W1 w' none → w'.cell? ⟨w.heap.size, 5, none⟩ = some (.slice X.e S.eyes.length X.ec) := fun w' q => (HSB.out.kept q).c5
  have s6_ : ∀ w', Kept W1 w' none → w'.cell? ⟨w.heap.size, 6, none⟩ = some (.int .i64 S.watch) := fun w' q => (HSB.out.kept q).c6
  have s7_ : ∀ w', Kept W1 w' none → w'.cell? ⟨w.heap.size, 7, none⟩ = some (.int .i64 S.feed) := fun w' q => (HSB.out.kept q).c7
  have s8_ : ∀ w', Kept W1 w' none → w'.cell? ⟨w.heap.size, 8, none⟩ = some (.int .i64 S.heal) := fun w' q => (HSB.out.kept q).c8
  have s9_ : ∀ w', Kept W1 w' none → w'.cell? ⟨w.heap.size, 9, none⟩ = some (.int .i64 S.low) := fun w' q => (HSB.out.kept q).c9
  have s10_ : ∀ w', Kept W1 w' none → w'.cell? ⟨w.heap.size, 10, none⟩ = some (.int .i64 S.high) := fun w' q => (HSB.out.kept q).c10
  have s11_ : ∀ w', Kept W1 w' none → w'.cell? ⟨w.heap.size, 11, none⟩ = some (.slice X.l S.plans.length X.lc) := fun w' q => (HSB.out.kept q).c11
  clear h hT hP k1 hsb hc1 hc2
  go_enter Tryd.func5, Tryd.ntmps5
  go_wp2_with (first | rw [hW1])
  go_at_call 14
  refine (rgreat_any (HS.out.kept HK.out)).mono ?_
  rintro e wg ⟨gr, rfl, hgr, hkg⟩
  have hKg : Kept W1 wg none := hkg
  clear hgr
  cases gr with
  | true =>
    go_wp2
    go_ret
    exact ⟨rfl, (HK.out.tr hKg).below⟩
  | false =>
  have h300b : decide ((300 : Int) < (n : Int)) = true := by simp; omega
  have h4096b : decide ((n : Int) ≤ (4096 : Int)) = false := by simp; omega
  have h5000b : decide ((5000 : Int) < (n : Int)) = true := by simp; omega
  go_wp2
  go_ret
  exact ⟨rfl, (HK.out.tr hKg).below⟩
theorem straces_any {X : Sa} {S : St} {w : World} {pa : Option Addr} {n cp : Nat} {T : List (List Nat)} (h : Sat w X S) (hT : Tabb w) (hP : Trc w pa n T) : Calls Tryd.prog 5 #[siteV X S, .slice pa n cp] w fun e w' => e = .returned (.bool true) ∧ Below w.heap.size w w' := by
  by_cases h1 : n ≤ 300
  · exact tra_few h hT hP h1
  by_cases h2 : n ≤ 4096
  · exact tra_mid h hT hP (by omega) h2
  by_cases h3 : n ≤ 5000
  · exact tra_many h hT hP (by omega) h3
  exact tra_over h hT hP (by omega)

end Go.Proofs.YtpnmlgillphodaaDoor

