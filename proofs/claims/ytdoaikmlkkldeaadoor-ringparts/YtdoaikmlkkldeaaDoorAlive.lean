/-
  THE CONTRACT of alive: two of three numbers, and a set.
-/
import Derived.Test.YtdoaikmlkkldeaaDoorRingB
namespace Go.Proofs.YtdoaikmlkkldeaaDoor
open Go.RowKit Go.Lib Go.Deep
set_option linter.unusedVariables false
set_option linter.unusedSimpArgs false

theorem bit1 (w : World) : Calls Tryd.prog 25 #[.int .i64 1] w fun e w' => e = .returned (.int .u32 2) ∧ w' = w := by
  go_enter Tryd.func25, Tryd.ntmps25
  go_wp2
  go_ret
  exact ⟨rfl, rfl⟩
theorem with5 (w : World) : Calls Tryd.prog 17 #[.int .u32 5, .int .i64 1] w fun e w' => e = .returned (.int .u32 7) ∧ w' = w := by
  have hb : bits .or .u32 5 2 = 7 := by decide +kernel
  go_enter Tryd.func17, Tryd.ntmps17
  go_wp2_with (go_at_call 25; refine (bit1 _).mono ?_; rintro e w ⟨rfl, rfl⟩)
  go_ret
  exact ⟨rfl, rfl⟩

theorem all_alive {b : Nat} {w : World} (h : IsRing w b 2 ((([] ++ [5]) ++ [6]) ++ [7])) :
    Calls Tryd.prog 12 #[.pointer (some ⟨b, 0, none⟩)] w fun e w' => e = .returned (.tuple #[.slice (some ⟨w.heap.size, 0, none⟩) 2 2, .int .i64 0]) ∧
      w'.cell? ⟨w.heap.size, 0, none⟩ = some (.int .i64 6) ∧ w'.cell? ⟨w.heap.size, 1, none⟩ = some (.int .i64 7) ∧ w'.heap.size = w.heap.size + 1 ∧ Kept w w' none := by
  refine (all_ring h).mono ?_
  rintro e w' ⟨rfl, hr, hs, hk⟩
  exact ⟨rfl, hr.cell (by decide), hr.cell (by decide), hs, hk⟩

theorem alive_any (w : World) : Calls Tryd.prog 6 #[] w fun e w' => e = .returned (.bool true) ∧ Old w.heap.size w w' ∧ w'.heap.size = w.heap.size + 2 := by
  go_enter Tryd.func6, Tryd.ntmps6
  go_wp2_with (first
    | (go_at_call 7; refine (new_yes 2 _ rfl _ (by omega) (by omega)).mono ?_; rintro e w1 ⟨rfl, hr0, hs0, hk0⟩)
    | (go_at_call 9; refine (push_ring hr2 _).mono ?_; rintro e w4 ⟨rfl, hr3, hs3, hk3⟩)
    | (go_at_call 9; refine (push_ring hr1 _).mono ?_; rintro e w3 ⟨rfl, hr2, hs2, hk2⟩)
    | (go_at_call 9; refine (push_ring hr0 _).mono ?_; rintro e w2 ⟨rfl, hr1, hs1, hk1⟩)
    | (go_at_call 12; refine (all_alive hr3).mono ?_; rintro e w5 ⟨rfl, hc0, hc1, hs4, hk4⟩; rw [hs3, hs2, hs1, hs0] at hc0 hc1)
    | (go_at_call 17; refine (with5 _).mono ?_; rintro e w6 ⟨rfl, rfl⟩))
  go_ret
  refine ⟨rfl, ?_, by omega⟩
  exact (((((Old.refl _ _).kept hk0 (Nat.le_refl _) (fun _ h => by cases h)).kept hk1 (by omega) (fun i h => by cases h; exact Nat.le_refl _)).kept hk2 (by omega) (fun i h => by cases h; exact Nat.le_refl _)).kept hk3 (by omega) (fun i h => by cases h; exact Nat.le_refl _)).kept hk4 (by omega) (fun _ h => by cases h)

end Go.Proofs.YtdoaikmlkkldeaaDoor
