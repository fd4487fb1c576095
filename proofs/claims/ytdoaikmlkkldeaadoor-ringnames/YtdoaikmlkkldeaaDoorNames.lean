/-
  THE WALK of RingNames: the chapter's examples.
-/
import Derived.Test.YtdoaikmlkkldeaaDoorBits
import Derived.Test.YtdoaikmlkkldeaaDoorAlive
import Derived.Test.YtdoaikmlkkldeaaDoorRingC
import Derived.Deep.RegionWith
namespace Go.Proofs.YtdoaikmlkkldeaaDoor
open Go.RowKit Go.Lib Go.Deep
set_option linter.unusedVariables false
set_option linter.unusedSimpArgs false

theorem made_nil (w : World) : Calls Tryd.prog 23 #[.pointer none] w fun e w' => e = .returned (.bool false) ∧ w' = w := by
  go_enter Tryd.func23, Tryd.ntmps23
  go_wp2
  go_ret
  exact ⟨rfl, rfl⟩
theorem all_nil (w : World) : Calls Tryd.prog 12 #[.pointer none] w fun e w' => e = .returned (.tuple #[.slice none 0 0, .int .i64 1]) ∧ w' = w := by
  go_enter Tryd.func12, Tryd.ntmps12
  go_wp2_with (go_at_call 23; refine (made_nil _).mono ?_; rintro e w ⟨rfl, rfl⟩)
  go_ret2
  exact ⟨rfl, rfl⟩
theorem push_nil (x : Int) (w : World) : Calls Tryd.prog 9 #[.pointer none, .int .i64 x] w fun e w' => e = .returned (.int .i64 1) ∧ w' = w := by
  go_enter Tryd.func9, Tryd.ntmps9
  go_wp2_with (go_at_call 23; refine (made_nil _).mono ?_; rintro e w ⟨rfl, rfl⟩)
  go_ret
  exact ⟨rfl, rfl⟩
theorem made_plain (b : Nat) (w : World) (hc : w.cell? ⟨b, 1024, none⟩ = some (.int .i64 0)) : Calls Tryd.prog 23 #[.pointer (some ⟨b, 0, none⟩)] w fun e w' => e = .returned (.bool false) ∧ w' = w := made_any b 0 w hc
theorem sum_plain (b : Nat) (w : World) (hc : w.cell? ⟨b, 1024, none⟩ = some (.int .i64 0)) : Calls Tryd.prog 11 #[.pointer (some ⟨b, 0, none⟩)] w fun e w' => e = .returned (.tuple #[.int .i64 0, .int .i64 1]) ∧ w' = w := by
  go_enter Tryd.func11, Tryd.ntmps11
  go_wp2_with (go_at_call 23; refine (made_plain _ _ hc).mono ?_; rintro e w ⟨rfl, rfl⟩)
  go_ret2
  exact ⟨rfl, rfl⟩
theorem full_plain (b : Nat) (w : World) (hc : w.cell? ⟨b, 1024, none⟩ = some (.int .i64 0)) : Calls Tryd.prog 10 #[.pointer (some ⟨b, 0, none⟩)] w fun e w' => e = .returned (.bool false) ∧ ∃ k, w' = w.drewN k := by
  go_enter Tryd.func10, Tryd.ntmps10
  go_wp2_with fail
  go_quiet ((go_at_call 23; exact Calls.quiet_of_same (made_plain _ _ hc)))
  go_wp2
  go_ret
  exact ⟨rfl, _, rfl⟩

theorem has52 (w : World) : Calls Tryd.prog 13 #[.int .u32 5, .int .i64 2] w fun e w' => e = .returned (.bool true) ∧ w' = w := by
  have h := has_any 5 2 w (by omega)
  rw [show hasB 5 2 = true by decide] at h
  exact h
theorem has1m (w : World) : Calls Tryd.prog 13 #[.int .u32 1, .int .i64 (-1)] w fun e w' => e = .returned (.bool false) ∧ w' = w := by
  have h := has_any 1 (-1) w (by omega)
  rw [show hasB 1 (-1) = false by decide] at h
  exact h
theorem without50 (w : World) : Calls Tryd.prog 14 #[.int .u32 5, .int .i64 0] w fun e w' => e = .returned (.int .u32 4) ∧ w' = w := by
  have h := without_any 5 0 w (by omega)
  rw [show withoutV 5 0 = 4 by decide] at h
  exact h
theorem with132 (w : World) : Calls Tryd.prog 17 #[.int .u32 1, .int .i64 32] w fun e w' => e = .returned (.int .u32 1) ∧ w' = w := by
  have h := with_any 1 32 w (by omega)
  rw [show withV 1 32 = 1 by decide] at h
  exact h
theorem count5 (w : World) : Calls Tryd.prog 15 #[.int .u32 5] w fun e w' => e = .returned (.int .i64 2) ∧ ∃ m, w' = w.drewN m := by
  have h := count_any 5 w (by omega)
  rw [show cnt 5 32 = 2 by decide] at h
  exact h
theorem least4 (w : World) (ht : Table w) : Calls Tryd.prog 16 #[.int .u32 4] w fun e w' => e = .returned (.int .i64 2) ∧ w' = w := by
  have h := least_any 4 w (by omega) ht
  rw [show leastV 4 = 2 by decide] at h
  exact h
theorem least0 (w : World) (ht : Table w) : Calls Tryd.prog 16 #[.int .u32 0] w fun e w' => e = .returned (.int .i64 (-1)) ∧ w' = w := by
  have h := least_any 0 w (by omega) ht
  rw [show leastV 0 = -1 by decide] at h
  exact h
theorem sum13 {b : Nat} {w : World} (h : IsRing w b 2 ((([] ++ [5]) ++ [6]) ++ [7])) : Calls Tryd.prog 11 #[.pointer (some ⟨b, 0, none⟩)] w fun e w' => e = .returned (.tuple #[.int .i64 13, .int .i64 0]) ∧ ∃ m, w' = w.drewN m := by
  have h' := sum_ring h (fun j => by
    by_cases hj : j < 3
    · rcases (show j = 0 ∨ j = 1 ∨ j = 2 by omega) with rfl | rfl | rfl <;> decide
    · have : ([] ++ [5] ++ [6] ++ [7] : List Int).getD j 0 = 0 := by simp [List.getElem?_eq_none (show ([5, 6, 7] : List Int).length ≤ j by simp; omega)]
      rw [this]; omega)
  rw [show stopS (lsum (lastN 2 ((([] ++ [5]) ++ [6]) ++ [7]))) = 13 by decide] at h'
  exact h'
theorem at7 {b : Nat} {w : World} (h : IsRing w b 2 ((([] ++ [5]) ++ [6]) ++ [7])) : Calls Tryd.prog 8 #[.pointer (some ⟨b, 0, none⟩), .int .i64 0] w fun e w' => e = .returned (.tuple #[.int .i64 7, .int .i64 0]) ∧ ∃ m, w' = w.drewN m :=
  at_yes h 0 0 rfl (by decide)
theorem at6 {b : Nat} {w : World} (h : IsRing w b 2 ((([] ++ [5]) ++ [6]) ++ [7])) : Calls Tryd.prog 8 #[.pointer (some ⟨b, 0, none⟩), .int .i64 1] w fun e w' => e = .returned (.tuple #[.int .i64 6, .int .i64 0]) ∧ ∃ m, w' = w.drewN m :=
  at_yes h 1 1 rfl (by decide)
theorem at2 {b : Nat} {w : World} (h : IsRing w b 2 ((([] ++ [5]) ++ [6]) ++ [7])) : Calls Tryd.prog 8 #[.pointer (some ⟨b, 0, none⟩), .int .i64 2] w fun e w' => e = .returned (.tuple #[.int .i64 0, .int .i64 2]) ∧ w' = w :=
  at_no h 2 (.inr (by decide))
theorem at0 {b : Nat} {w : World} (h : IsRing w b 2 []) : Calls Tryd.prog 8 #[.pointer (some ⟨b, 0, none⟩), .int .i64 0] w fun e w' => e = .returned (.tuple #[.int .i64 0, .int .i64 2]) ∧ w' = w :=
  at_no h 0 (.inr (by decide))

theorem plain_cells : zcells = ringCells 0 := by
  apply Array.ext_getElem?
  intro i
  by_cases h : i < 1027
  · rw [ringCells_get 0 i h]; simp [zcells, h]
  · rw [Array.getElem?_eq_none (by rw [zcells_size]; omega), Array.getElem?_eq_none (by rw [ringCells_size]; omega)]
theorem plain_cell (w : World) : (w.alloc (.cells (ringCells 0) 34)).cell? ⟨w.heap.size, 1024, none⟩ = some (.int .i64 0) := by
  have := World.rowIs_alloc w (ringCells 0) 34 (fun i => .int .i64 (if i = 1024 then (0 : Int) else 0)) (fun i hi => ringCells_get 0 i (by rwa [ringCells_size] at hi))
  have h := this.cell (i := 1024) (by rw [ringCells_size]; omega)
  simpa using h

set_option maxRecDepth 100000 in
set_option maxHeartbeats 2000000 in
theorem names_main (w : World) (ht : Table w) : Calls Tryd.prog 3 #[] w fun e w' => e = .returned (.bool true) ∧ Grown w w' := by
  have hbz := zero_ring
  have hbs := zcells_size
  have HPC : Hid (∀ X : World, (X.alloc (.cells zcells 34)).cell? ⟨X.heap.size, 1024, none⟩ = some (.int .i64 0)) := by rw [plain_cells]; exact plain_cell
  generalize zcells = C0 at *
  have HT : Hid (Table w) := ht
  clear ht
  go_enter Tryd.func3, Tryd.ntmps3
  go_wp2_with (go_at_call 6; refine (alive_any _).mono ?_; rintro e w1 ⟨rfl, ho1, hs1⟩)
  have HT1 : Hid (Table w1) := fun i hi => (ho1.below.cell (p := ⟨0, i, none⟩) (by exact HT.out.lt)).trans (HT.out i hi)
  clear HT
  have HB : Hid (w.heap.size ≤ w1.heap.size) := ho1.below.size
  have HO1 : Hid (Old w.heap.size w w1) := ho1
  clear ho1 hs1
  go_wp2_with (go_at_call 7; refine (new_yes 2 _ rfl _ (by omega) (by omega)).mono ?_; rintro e w2 ⟨rfl, hr0, hs2, hk2⟩)
  have HK2 : Hid (Kept w1 w2 none) := hk2
  have HS2 : Hid (w2.heap.size = w1.heap.size + 1) := hs2
  clear hk2 hs2
  generalize hb : w1.heap.size = b at *
  have HEB : Hid (w1.heap.size = b) := hb
  clear hb
  go_wp2_with (go_at_call 8; refine (at0 hr0).mono ?_; rintro e w2 ⟨rfl, rfl⟩)
  go_wp2_with (first
    | (go_at_call 9; refine (push_ring hr1 _).mono ?_; rintro e w4 ⟨rfl, hr2, hs4, hk4⟩)
    | (go_at_call 9; refine (push_ring hr0 _).mono ?_; rintro e w3 ⟨rfl, hr1, hs3, hk3⟩))
  go_wp2_with (go_at_call 10; refine (full_yes hr2 (by decide)).mono ?_; rintro e w5 ⟨rfl, m5, rfl⟩; have hr2' : IsRing (w4.drewN m5) b 2 (([] ++ [5]) ++ [6]) := hr2.kept (Kept.drewN _ _ none) (by simp))
  go_wp2_with (go_at_call 9; refine (push_ring hr2' _).mono ?_; rintro e w6 ⟨rfl, hr3, hs6, hk6⟩)
  go_wp2_with (go_at_call_of 8 (Value.int IntKind.i64 0); refine (at7 hr3).mono ?_; rintro e w7 ⟨rfl, m7, rfl⟩; have hr4 : IsRing (w6.drewN m7) b 2 ((([] ++ [5]) ++ [6]) ++ [7]) := hr3.kept (Kept.drewN _ _ none) (by simp))
  go_wp2_with (go_at_call_of 8 (Value.int IntKind.i64 1); refine (at6 hr4).mono ?_; rintro e w8 ⟨rfl, m8, rfl⟩; have hr5 : IsRing ((w6.drewN m7).drewN m8) b 2 ((([] ++ [5]) ++ [6]) ++ [7]) := hr4.kept (Kept.drewN _ _ none) (by simp); rw [World.drewN_drewN] at hr5)
  go_wp2_with (go_at_call_of 8 (Value.int IntKind.i64 2); refine (at2 hr5).mono ?_; rintro e w9 ⟨rfl, hw⟩; subst hw)
  go_wp2_with (go_at_call 11; refine (sum13 hr5).mono ?_; rintro e w10 ⟨rfl, m10, rfl⟩)
  have HK6 : Hid (Kept w4 w6 (some b)) := (Kept.drewN w4 m5 _).trans hk6
  have HK3 : Hid (Kept w2 w4 (some b)) := hk3.trans hk4
  have HS6 : Hid (w6.heap.size = w2.heap.size) := by show _ = _; rw [hs6, World.heap_drewN, hs4, hs3]
  clear hr0 hr1 hr2 hr2' hr3 hr4 hr5 hk3 hk4 hk6 hs3 hs4 hs6
  have HKX : Hid (Kept w6 (w6.drewN (m7 + m8 + m10)) none) := Kept.drewN _ _ _
  have HSX : Hid ((w6.drewN (m7 + m8 + m10)).heap.size = w6.heap.size) := rfl
  generalize w6.drewN (m7 + m8 + m10) = X at *
  go_wp2_with (first
    | (go_at_call_of 7 (Value.int IntKind.i64 0); refine (new_no _ _ (by omega)).mono ?_; rintro e X ⟨rfl, rfl⟩)
    | (go_at_call_of 7 (Value.int IntKind.i64 1025); refine (new_no _ _ (by omega)).mono ?_; rintro e X ⟨rfl, rfl⟩))
  have hpc := HPC.out X
  have HKY : Hid (Kept X (X.alloc (.cells C0 34)) none) := Kept.alloc _ _ _ _
  have HSY : Hid ((X.alloc (.cells C0 34)).heap.size = X.heap.size + 1) := by show _ = _; simp
  generalize X.alloc (.cells C0 34) = Y at *
  go_wp2_with (first
    | (go_at_call 12; refine (all_nil _).mono ?_; rintro e Y ⟨rfl, rfl⟩)
    | (go_at_call 11; refine (sum_plain _ _ hpc).mono ?_; rintro e Y ⟨rfl, rfl⟩)
    | (go_at_call 9; refine (push_nil _ _).mono ?_; rintro e Y ⟨rfl, rfl⟩)
    | (go_at_call 10; refine (full_plain _ _ hpc).mono ?_; rintro e w12 ⟨rfl, m12, rfl⟩))
  have HBB : Hid (w.heap.size ≤ b) := HB
  have HOZ : Hid (Old w.heap.size w (Y.drewN m12)) := by
    have e1 := HEB.out
    have e2 := HBB.out
    have e3 := HS2.out
    have e6 := HS6.out
    have eX := HSX.out
    have eY := HSY.out
    exact (((((HO1.out.kept HK2.out (by omega) (fun _ h => by cases h)).kept HK3.out (by omega) (fun i h => by cases h; exact e2)).kept HK6.out (by
      have := HK3.out.size; omega) (fun i h => by cases h; exact e2)).kept HKX.out (by omega) (fun _ h => by cases h)).kept HKY.out (by omega) (fun _ h => by cases h)).kept (Kept.drewN _ _ none) (by omega) (fun _ h => by cases h)
  have HTZ : Hid (Table (Y.drewN m12)) := by
    have hb0 : some 0 ≠ some b := by
      have := HT1.out.lt
      have e1 := HEB.out
      intro h
      injection h with h
      omega
    exact (((((HT1.out.kept HK2.out).keptR HK3.out hb0).keptR HK6.out hb0).kept HKX.out).kept HKY.out).kept (Kept.drewN _ _ _)
  clear HK2 HK3 HK6 HKX HKY HO1 HT1 HEB HB HBB HS2 HS6 HSX HSY hpc hbz hbs HPC
  generalize Y.drewN m12 = Z at *
  go_wp2_with (first
    | (go_at_call_of 13 (Value.int IntKind.u32 5); refine (has52 _).mono ?_; rintro e Z ⟨rfl, rfl⟩)
    | (go_at_call 14; refine (without50 _).mono ?_; rintro e Z ⟨rfl, rfl⟩)
    | (go_at_call 15; refine (count5 _).mono ?_; rintro e Z2 ⟨rfl, m13, rfl⟩))
  go_wp2_with (first
    | (go_at_call_of 16 (Value.int IntKind.u32 4); refine (least4 _ (HTZ.out.kept (Kept.drewN _ _ _))).mono ?_; rintro e Z3 ⟨rfl, hw⟩; subst hw)
    | (go_at_call_of 16 (Value.int IntKind.u32 0); refine (least0 _ (HTZ.out.kept (Kept.drewN _ _ _))).mono ?_; rintro e Z3 ⟨rfl, hw⟩; subst hw)
    | (go_at_call_of 13 (Value.int IntKind.u32 1); refine (has1m _).mono ?_; rintro e Z3 ⟨rfl, hw⟩; subst hw)
    | (go_at_call 17; refine (with132 _).mono ?_; rintro e Z3 ⟨rfl, hw⟩; subst hw))
  go_ret
  exact ⟨rfl, (HOZ.out.kept (Kept.drewN _ _ none) HOZ.out.below.size (fun _ h => by cases h)).grown⟩

end Go.Proofs.YtdoaikmlkkldeaaDoor
