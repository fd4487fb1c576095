/-
  Texts joined: some of those that the proofs of this seat stand on.
-/
import Derived.Test.YtkbhcpgdhbfhnaaDoorToldAJ
/-
  GateNames: the walk (made by a program).
-/
namespace Go.Proofs.YtkbhcpgdhbfhnaaDoor
open Go.RowKit Go.Lib Go.Deep
set_option linter.unusedVariables false
set_option linter.unusedSimpArgs false

theorem tx_g00 : (ByteArray.mk #[71, 71, 71, 71, 71, 71, 71, 71, 71, 71, 71, 71, 71, 71]) = textOf [71, 71, 71, 71, 71, 71, 71, 71, 71, 71, 71, 71, 71, 71] := by rfl
theorem tx_g01 : (ByteArray.mk #[82, 82, 82, 82, 71, 82, 71, 82, 71, 82, 71, 82, 71, 82]) = textOf [82, 82, 82, 82, 71, 82, 71, 82, 71, 82, 71, 82, 71, 82] := by rfl
theorem tx_g10 : (ByteArray.mk #[70, 70, 71, 71, 71, 71, 71, 71]) = textOf [70, 70, 71, 71, 71, 71, 71, 71] := by rfl
theorem tx_g11 : (ByteArray.mk #[70, 70, 82, 82, 82, 82, 71, 82]) = textOf [70, 70, 82, 82, 82, 82, 71, 82] := by rfl
def S00 : St := ⟨0, [], [], [], [], [], 0, 0, 0, 0, 0, []⟩
def X00 : Sa := ⟨none, 0, none, 0, none, 0, none, 0, none, 0, none, 0⟩
theorem cap00 : Cap none 0 0 := ⟨fun _ => ⟨rfl, rfl⟩, Nat.le_refl _, Nat.zero_le _⟩
theorem sat00 (w : World) : Sat w X00 S00 := by
  have hi : i64B 0 := by unfold i64B; omega
  refine ⟨⟨fun h => absurd h (by decide)⟩, ⟨fun h => absurd h (by decide)⟩, ⟨⟨fun _ => (none, 0), ⟨fun h => absurd h (by decide)⟩, fun i h => absurd h (Nat.not_lt_zero i)⟩, rfl, cap00⟩, ⟨fun h => absurd h (by decide)⟩, ⟨fun h => absurd h (by decide)⟩, ⟨⟨fun _ => (none, 0), ⟨fun h => absurd h (by decide)⟩, fun i h => absurd h (Nat.not_lt_zero i)⟩, rfl, cap00, fun p h => (nomatch h)⟩, cap00, cap00, cap00, cap00, fun g h => (nomatch h), fun g h => (nomatch h), fun g h => (nomatch h), fun g h => (nomatch h), hi, hi, hi, hi, hi, hi⟩
theorem s00_no : siteB S00 = false := by decide +kernel
theorem trc_one (w : World) : Trc ((w.alloc (.cells #[.int .u8 1] 5)).alloc (.cells #[.slice (some ⟨w.heap.size, 0, none⟩) 1 1] 36)) (some ⟨w.heap.size + 1, 0, none⟩) 1 [[1]] := by
  refine ⟨rfl, by omega, fun _ => ⟨w.heap.size + 1, 0, rfl, by simp, fun i hi => ?_⟩⟩
  obtain rfl : i = 0 := by omega
  refine ⟨some ⟨w.heap.size, 0, none⟩, 1, alloc_at8 _ _ _ (by simp) rfl, ?_⟩
  have h := By.alloc w [1] 5 (0, 0) #[.int .u8 1] (fun i hi => by
    obtain rfl : i = 0 := by simpa using hi
    rfl) (by simp) (by simp)
  exact h.kept (Kept.alloc _ _ _ _ _)
abbrev sf09 : Sf := ⟨[], 0, false⟩
theorem safe_nil9 (w : World) : SafeAt w none 0 sf09 := ⟨⟨fun hp => absurd hp (by simp)⟩, ⟨fun _ => ⟨rfl, rfl⟩, by simp, by omega⟩, by simp⟩
theorem goes_sf0 : goesE S8 sf09 = 8 := by decide +kernel
theorem goes_f8 : goesE S8 (firstV S8) = 0 := by decide +kernel
theorem let_f8 : letF S8 (firstV S8) (oneL S8.groups.length 0) 0 = 1 := by decide +kernel
set_option maxRecDepth 100000 in
set_option maxHeartbeats 4000000 in
theorem gnames_any {w : World} (hT : Tabb w) : Calls Tryd.prog 3 #[] w fun e w' => e = .returned (.bool true) ∧ Below w.heap.size w w' := by
  have HT := Hid.mk' hT
  have HI1 := Hid.mk' (runs_yes hT [71, 71, 71, 71, 71, 71, 71, 71, 71, 71, 71, 71, 71, 71] [82, 82, 82, 82, 71, 82, 71, 82, 71, 82, 71, 82, 71, 82] (by decide) (by decide) (by decide +kernel))
  rw [← tx_g00, ← tx_g01] at HI1
  have HI2 := Hid.mk' (fun w' (q : Kept w w' none) => runs_yes (hT.kept q) [70, 70, 71, 71, 71, 71, 71, 71] [70, 70, 82, 82, 82, 82, 71, 82] (by decide) (by decide) (by decide +kernel))
  rw [← tx_g10, ← tx_g11] at HI2
  clear hT
  go_enter Tryd.func3, Tryd.ntmps3
  go_wp2_with (first
    | (have hgo := SAE; clear hgo; go_at_call 13; refine (first_yes2 SAE.out (HT.out.kept hkE) s8_may).mono ?_; rintro e wF ⟨b5, rfl, hb5, hog5, hqF⟩; have hkF : Kept w wF none := hkE.tr hqF)
    | (have hgo := hkD; clear hgo; go_at_call 11; refine two_any.mono ?_; rintro e wE ⟨XE, rfl, hsat, hqE⟩; have SAE := Hid.mk' hsat; have hkE : Kept w wE none := hkD.tr hqE; clear hsat)
    | (have hgo := SAC; clear hgo; go_at_call 12; have hx := gadmit_no (al := none) (n := 0) (cl := 0) SAC.out (HT.out.kept hkC) (safe_nil9 wC) (by rw [goes_sf0]; decide); rw [goes_sf0] at hx; refine hx.mono ?_; rintro e wD ⟨rfl, hqD⟩; have hkD : Kept w wD none := hkC.tr hqD; clear hx)
    | (have hgo := hkB; clear hgo; go_at_call 11; refine two_any.mono ?_; rintro e wC ⟨XC, rfl, hsat, hqC⟩; have SAC := Hid.mk' hsat; have hkC : Kept w wC none := hkB.tr hqC; clear hsat)
    | (have hgo := hkR; clear hgo; go_at_call 10; refine (grun_no (X := X00) (S := S00) (pa := none) (n := 0) (T := []) (sat00 _) (HT.out.kept hkR) ⟨rfl, by omega, fun h => by omega⟩ s00_no).mono ?_; rintro e wB ⟨rfl, hqB⟩; have hkB : Kept w wB none := hkR.tr hqB)
    | (have hgo := SAA; clear hgo; go_at_call 10; have hx := grun_ask (cp := 1) (k0 := 0) ((SAA.out.kept (Kept.alloc _ _ _ _ _)).kept (Kept.alloc _ _ _ _ _)) (((HT.out.kept hkA).kept (Kept.alloc _ _ _ _ _)).kept (Kept.alloc _ _ _ _ _)) (trc_one wA) s8_may (by omega) (by omega) (by decide); refine hx.mono ?_; rintro e wR ⟨rfl, hqR⟩; have hkR : Kept w wR none := ((hkA.tr (Kept.alloc _ _ _ _ _)).tr (Kept.alloc _ _ _ _ _)).tr hqR; clear hx)
    | (have hgo := hk2; clear hgo; go_at_call 11; refine two_any.mono ?_; rintro e wA ⟨XA, rfl, hsat, hqA⟩; have SAA := Hid.mk' hsat; have hkA : Kept w wA none := hk2.tr hqA; clear hsat)
    | (have hgo := hk1; clear hgo; go_at_call 9; refine (HI2.out _ hk1).mono ?_; rintro e w2 ⟨rfl, hq2⟩; have hk2 : Kept w w2 none := hk1.tr hq2)
    | (go_at_call 9; refine HI1.out.mono ?_; rintro e w1 ⟨rfl, hk1⟩))
  have kL : Kept wF (wF.alloc (.cells #[.slice (some ⟨b5, 0, none⟩) S8.groups.length S8.groups.length, .int .i64 (worstM S8), .bool false] 41)) none := Kept.alloc _ _ _ _ _
  have bx := box_alloc wF (.slice (some ⟨b5, 0, none⟩) S8.groups.length S8.groups.length) (.int .i64 (worstM S8)) (.bool false) 41
  obtain ⟨W5, hW5⟩ : ∃ W5, wF.alloc (.cells #[.slice (some ⟨b5, 0, none⟩) S8.groups.length S8.groups.length, .int .i64 (worstM S8), .bool false] 41) = W5 := ⟨_, rfl⟩
  rw [hW5] at kL bx ⊢
  have HBX := Hid.mk' bx
  have x0 : ∀ w', Kept W5 w' none → w'.cell? ⟨wF.heap.size, 0, none⟩ = some (.slice (some ⟨b5, 0, none⟩) S8.groups.length S8.groups.length) := fun w' q => (HBX.out.kept q).c0
  have x1 : ∀ w', Kept W5 w' none → w'.cell? ⟨wF.heap.size, 1, none⟩ = some (.int .i64 (worstM S8)) := fun w' q => (HBX.out.kept q).c1
  have x2 : ∀ w', Kept W5 w' none → w'.cell? ⟨wF.heap.size, 2, none⟩ = some (.bool false) := fun w' q => (HBX.out.kept q).c2
  have hsf : SafeAt W5 (some ⟨b5, 0, none⟩) S8.groups.length (firstV S8) := OwnG.safe (row_kept hog5 kL (by simp)) (firstV_len S8) (fun i hi => firstV_g hi) (by decide) (fun s hs => by
    have := (List.mem_replicate.1 hs).2
    subst this
    unfold i64B; simp)
  have hk5 : Kept w W5 none := hkF.tr kL
  have HK5 := Hid.mk' hk5
  have HO6 : Hid (∀ w' X, Kept W5 w' none → Sat w' X S8 → Calls Tryd.prog 14 #[siteV X S8, (.agg #[.slice (some ⟨b5, 0, none⟩) S8.groups.length S8.groups.length, .int .i64 (worstM S8), .bool false]), .int .i64 2] w' fun e w2 => e = .returned (.tuple #[.bool false, .int .i64 2]) ∧ Kept w' w2 none) := fun w' X q hs => by
    have hx := gopn_arg hs (HT.out.kept (hk5.tr q)) (hsf.kept q) 2 goes_f8 (.inr (by decide))
    rw [safeV, firstV_len] at hx
    exact hx
  have HO7 : Hid (∀ w' X, Kept W5 w' none → Sat w' X S8 → Calls Tryd.prog 14 #[siteV X S8, (.agg #[.slice (some ⟨b5, 0, none⟩) S8.groups.length S8.groups.length, .int .i64 (worstM S8), .bool false]), .int .i64 0] w' fun e w2 => e = .returned (.tuple #[.bool false, .int .i64 0]) ∧ Kept w' w2 none) := fun w' X q hs => by
    have hx := gopn_go hs (HT.out.kept (hk5.tr q)) (hsf.kept q) 0 goes_f8 (by decide)
    rw [safeV, firstV_len, let_f8] at hx
    exact hx
  have hH6 := Kept.refl W5 none
  clear hW5 bx kL hsf hk5 hog5 hb5 hqF hkF hqE hkE hqD hkD hqC hkC hqB hkB hqR hkR hqA hkA hq2 hk2 hk1
  try go_wp2
  go_region_held (fun w' => Kept W5 w' none)
    ((first | exact hH6 | exact Kept.tr hH6 (Kept.drew _ _) | assumption | exact Kept.tr (by assumption) (Kept.drew _ _)))
    ((first
      | (go_at_call 14; refine (HO6.out _ _ hK6a SA6.out).mono ?_; rintro e wO6 ⟨rfl, hkO6⟩; have hK6b : Kept W5 wO6 none := Kept.tr hK6a hkO6)
      | (go_at_call 11; refine two_any.mono ?_; rintro e wT6 ⟨XT6, rfl, hsat6, hkT6⟩; have SA6 := Hid.mk' hsat6; have hK6a : Kept W5 wT6 none := Kept.tr (by assumption) hkT6; clear hsat6)))
  all_goals
  go_wp2
  have hH7 : Kept W5 wO6 none := hK6b
  go_region_held (fun w' => Kept W5 w' none)
    ((first | exact hH7 | exact Kept.tr hH7 (Kept.drew _ _) | assumption | exact Kept.tr (by assumption) (Kept.drew _ _)))
    ((first
      | (go_at_call 14; refine (HO7.out _ _ hK7a SA7.out).mono ?_; rintro e wO7 ⟨rfl, hkO7⟩; have hK7b : Kept W5 wO7 none := Kept.tr hK7a hkO7)
      | (go_at_call 11; refine two_any.mono ?_; rintro e wT7 ⟨XT7, rfl, hsat7, hkT7⟩; have SA7 := Hid.mk' hsat7; have hK7a : Kept W5 wT7 none := Kept.tr (by assumption) hkT7; clear hsat7)))
  all_goals
  go_wp2_with (go_at_call 15; refine (galive_any (HT.out.kept (HK5.out.tr hK7b))).mono ?_; rintro e wZ ⟨rfl, hqZ⟩)
  go_ret
  exact ⟨rfl, (HK5.out.tr (hK7b.tr hqZ)).below⟩

end Go.Proofs.YtkbhcpgdhbfhnaaDoor

