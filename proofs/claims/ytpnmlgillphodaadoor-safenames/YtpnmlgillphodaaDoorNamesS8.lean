/-
  SafeNames: the walk (made by a program).
-/
import Derived.Test.YtpnmlgillphodaaDoorIsA
namespace Go.Proofs.YtpnmlgillphodaaDoor
open Go.RowKit Go.Lib Go.Deep
set_option linter.unusedVariables false
set_option linter.unusedSimpArgs false

theorem tx_n1 : (ByteArray.mk #[82, 82, 82, 82, 71, 82, 71, 82, 89, 82, 82, 71]) = textOf [82, 82, 82, 82, 71, 82, 71, 82, 89, 82, 82, 71] := by rfl
theorem tx_n2 : (ByteArray.mk #[82, 82, 82, 82, 71, 82, 70, 70, 71, 82]) = textOf [82, 82, 82, 82, 71, 82, 70, 70, 71, 82] := by rfl
theorem tx_n3 : (ByteArray.mk #[82, 82, 82, 82, 71, 71]) = textOf [82, 82, 82, 82, 71, 71] := by rfl
theorem tx_n4 : (ByteArray.mk #[82, 82, 82, 82, 71, 82, 89, 82]) = textOf [82, 82, 82, 82, 71, 82, 89, 82] := by rfl
theorem tx_n5 : (ByteArray.mk #[82, 82, 82, 82, 71, 82, 71, 82, 89, 82, 89, 82]) = textOf [82, 82, 82, 82, 71, 82, 71, 82, 89, 82, 89, 82] := by rfl
theorem tx_n6 : (ByteArray.mk #[82, 82, 82, 82, 71, 82, 82, 82]) = textOf [82, 82, 82, 82, 71, 82, 82, 82] := by rfl
theorem tx_n7 : (ByteArray.mk #[82, 82, 70, 82]) = textOf [82, 82, 70, 82] := by rfl
theorem tx_n8 : (ByteArray.mk #[70, 70, 70, 70, 82, 82, 82, 82, 71, 82]) = textOf [70, 70, 70, 70, 82, 82, 82, 82, 71, 82] := by rfl
def S00 : St := ⟨0, [], [], [], [], [], 0, 0, 0, 0, 0, []⟩
def X00 : Sa := ⟨none, 0, none, 0, none, 0, none, 0, none, 0, none, 0⟩
theorem cap00 : Cap none 0 0 := ⟨fun _ => ⟨rfl, rfl⟩, Nat.le_refl _, Nat.zero_le _⟩
theorem sat00 (w : World) : Sat w X00 S00 := by
  have hi : i64B 0 := by unfold i64B; omega
  refine ⟨⟨fun h => absurd h (by decide)⟩, ⟨fun h => absurd h (by decide)⟩, ⟨⟨fun _ => (none, 0), ⟨fun h => absurd h (by decide)⟩, fun i h => absurd h (Nat.not_lt_zero i)⟩, rfl, cap00⟩, ⟨fun h => absurd h (by decide)⟩, ⟨fun h => absurd h (by decide)⟩, ⟨⟨fun _ => (none, 0), ⟨fun h => absurd h (by decide)⟩, fun i h => absurd h (Nat.not_lt_zero i)⟩, rfl, cap00, fun p h => (nomatch h)⟩, cap00, cap00, cap00, cap00, fun g h => (nomatch h), fun g h => (nomatch h), fun g h => (nomatch h), fun g h => (nomatch h), hi, hi, hi, hi, hi, hi⟩
theorem s00_no : siteB S00 = false := by decide +kernel
theorem trc_one (w : World) : Trc ((w.alloc (.cells #[.int .u8 1] 5)).alloc (.cells #[.slice (some ⟨w.heap.size, 0, none⟩) 1 1] 35)) (some ⟨w.heap.size + 1, 0, none⟩) 1 [[1]] := by
  refine ⟨rfl, by omega, fun _ => ⟨w.heap.size + 1, 0, rfl, by simp, fun i hi => ?_⟩⟩
  obtain rfl : i = 0 := by omega
  refine ⟨some ⟨w.heap.size, 0, none⟩, 1, alloc_at8 _ _ _ (by simp) rfl, ?_⟩
  have h := By.alloc w [1] 5 (0, 0) #[.int .u8 1] (fun i hi => by
    obtain rfl : i = 0 := by simpa using hi
    rfl) (by simp) (by simp)
  exact h.kept (Kept.alloc _ _ _ _ _)
set_option maxRecDepth 100000 in
set_option maxHeartbeats 4000000 in
theorem snames_any {w : World} (hT : Tabb w) : Calls Tryd.prog 3 #[] w fun e w' => e = .returned (.bool true) ∧ Below w.heap.size w w' := by
  have HT := Hid.mk' hT
  have hk0 := Kept.refl w none
  have HW : Hid (worstM S8 = 2) := by show _ = _; decide +kernel
  have HA : Hid (ansN (fltV S8 [[1]]) 1 = 0) := by show _ = _; decide +kernel
  have HO : Hid (ownV (fltV S8 [[1]]) 1 = 1) := by show _ = _; decide +kernel
  have HI1 := Hid.mk' (fun w' (q : Kept w w' none) => is_yes (hT.kept q) [82, 82, 82, 82, 71, 82, 71, 82, 89, 82, 82, 71] 5 4 (by decide) (by decide) (by decide +kernel) (by decide +kernel))
  rw [← tx_n1] at HI1
  have HI2 := Hid.mk' (fun w' (q : Kept w w' none) => is_yes (hT.kept q) [82, 82, 82, 82, 71, 82, 70, 70, 71, 82] 4 8 (by decide) (by decide) (by decide +kernel) (by decide +kernel))
  rw [← tx_n2] at HI2
  have HI3 := Hid.mk' (fun w' (q : Kept w w' none) => is_yes (hT.kept q) [82, 82, 82, 82, 71, 71] 2 3 (by decide) (by decide) (by decide +kernel) (by decide +kernel))
  rw [← tx_n3] at HI3
  have HI4 := Hid.mk' (fun w' (q : Kept w w' none) => is_yes (hT.kept q) [82, 82, 82, 82, 71, 82, 89, 82] 3 5 (by decide) (by decide) (by decide +kernel) (by decide +kernel))
  rw [← tx_n4] at HI4
  have HI5 := Hid.mk' (fun w' (q : Kept w w' none) => is_yes (hT.kept q) [82, 82, 82, 82, 71, 82, 71, 82, 89, 82, 89, 82] 5 6 (by decide) (by decide) (by decide +kernel) (by decide +kernel))
  rw [← tx_n5] at HI5
  have HI6 := Hid.mk' (fun w' (q : Kept w w' none) => is_yes (hT.kept q) [82, 82, 82, 82, 71, 82, 82, 82] 3 2 (by decide) (by decide) (by decide +kernel) (by decide +kernel))
  rw [← tx_n6] at HI6
  have HI7 := Hid.mk' (fun w' (q : Kept w w' none) => is_yes (hT.kept q) [82, 82, 70, 82] 1 7 (by decide) (by decide) (by decide +kernel) (by decide +kernel))
  rw [← tx_n7] at HI7
  have HI8 := Hid.mk' (fun w' (q : Kept w w' none) => is_yes (hT.kept q) [70, 70, 70, 70, 82, 82, 82, 82, 71, 82] (-1) 0 (by decide) (by decide) (by decide +kernel) (by decide +kernel))
  rw [← tx_n8] at HI8
  clear hT
  go_enter Tryd.func3, Tryd.ntmps3
  go_wp2_with (first
    | (have hgo := hkF; clear hgo; go_at_call 13; refine (salive_any (HT.out.kept (hkF.tr (Kept.alloc _ _ _ _ _)))).mono ?_; rintro e wZ ⟨rfl, hqZ⟩; have hkZ := (hkF.tr (Kept.alloc _ _ _ _ _)).tr hqZ)
    | (have hgo := hkG; clear hgo; go_at_call 12; refine (first_no (X := X00) (S := S00) (sat00 _) (HT.out.kept hkG) s00_no).mono ?_; rintro e wF ⟨rfl, hqF⟩; have hkF : Kept w wF none := hkG.tr hqF)
    | (have hgo := SAB; clear hgo; go_at_call 11; have hn := great_yes SAB.out (HT.out.kept hkB) s8_may; rw [HW.out] at hn; refine hn.mono ?_; rintro e wG ⟨rfl, hqG⟩; have hkG : Kept w wG none := hkB.tr hqG)
    | (have hgo := hkC; clear hgo; go_at_call 10; refine two_any.mono ?_; rintro e wB ⟨XB, rfl, hsat, hqB⟩; have SAB := Hid.mk' hsat; have hkB : Kept w wB none := hkC.tr hqB; clear hsat)
    | (have hgo := SAA; clear hgo; go_at_call 9; have hn := check_go (cp := 1) ((SAA.out.kept (Kept.alloc _ _ _ _ _)).kept (Kept.alloc _ _ _ _ _)) (((HT.out.kept hkA).kept (Kept.alloc _ _ _ _ _)).kept (Kept.alloc _ _ _ _ _)) (trc_one wA) s8_may (by omega); rw [HA.out, HO.out] at hn; refine hn.mono ?_; rintro e wC ⟨rfl, hqC⟩; have hkC : Kept w wC none := ((hkA.tr (Kept.alloc _ _ _ _ _)).tr (Kept.alloc _ _ _ _ _)).tr hqC)
    | (have hgo := hk8; clear hgo; go_at_call 10; refine two_any.mono ?_; rintro e wA ⟨XA, rfl, hsat, hqA⟩; have SAA := Hid.mk' hsat; have hkA : Kept w wA none := hk8.tr hqA; clear hsat)
    | (have hgo := hk7; clear hgo; go_at_call 8; refine (HI8.out _ hk7).mono ?_; rintro e w8 ⟨rfl, hq8⟩; have hk8 : Kept w w8 none := hk7.tr hq8; clear hq8)
    | (have hgo := hk6; clear hgo; go_at_call 8; refine (HI7.out _ hk6).mono ?_; rintro e w7 ⟨rfl, hq7⟩; have hk7 : Kept w w7 none := hk6.tr hq7; clear hq7)
    | (have hgo := hk5; clear hgo; go_at_call 8; refine (HI6.out _ hk5).mono ?_; rintro e w6 ⟨rfl, hq6⟩; have hk6 : Kept w w6 none := hk5.tr hq6; clear hq6)
    | (have hgo := hk4; clear hgo; go_at_call 8; refine (HI5.out _ hk4).mono ?_; rintro e w5 ⟨rfl, hq5⟩; have hk5 : Kept w w5 none := hk4.tr hq5; clear hq5)
    | (have hgo := hk3; clear hgo; go_at_call 8; refine (HI4.out _ hk3).mono ?_; rintro e w4 ⟨rfl, hq4⟩; have hk4 : Kept w w4 none := hk3.tr hq4; clear hq4)
    | (have hgo := hk2; clear hgo; go_at_call 8; refine (HI3.out _ hk2).mono ?_; rintro e w3 ⟨rfl, hq3⟩; have hk3 : Kept w w3 none := hk2.tr hq3; clear hq3)
    | (have hgo := hk1; clear hgo; go_at_call 8; refine (HI2.out _ hk1).mono ?_; rintro e w2 ⟨rfl, hq2⟩; have hk2 : Kept w w2 none := hk1.tr hq2; clear hq2)
    | (have hgo := hk0; clear hgo; go_at_call 8; refine (HI1.out _ hk0).mono ?_; rintro e w1 ⟨rfl, hq1⟩; have hk1 : Kept w w1 none := hk0.tr hq1; clear hq1))
  go_ret
  exact ⟨rfl, hkZ.below⟩

end Go.Proofs.YtpnmlgillphodaaDoor
