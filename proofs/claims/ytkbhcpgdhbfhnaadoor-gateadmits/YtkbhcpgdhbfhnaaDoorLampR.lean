/-
  THE DOCUMENT'S OWN ANSWERS for one group of lights: the same numbers.
-/
import Derived.Test.YtkbhcpgdhbfhnaaDoorLampC
namespace Go.Proofs.YtkbhcpgdhbfhnaaDoor
open Go.RowKit Go.Lib Go.Deep
set_option linter.unusedVariables false
set_option linter.unusedSimpArgs false

theorem rkept_any (x : Int) (w : World) : Calls Tryd.prog 79 #[.int .i64 x] w fun e w' => e = .returned (.int .i64 (stp x)) ∧ w' = w := by
  by_cases h1 : x < 0
  · rw [show stp x = 0 by unfold stp; rw [if_pos h1]]
    go_enter Tryd.func79, Tryd.ntmps79
    go_wp2
    all_goals first
      | (go_ret; exact ⟨rfl, rfl⟩; done)
      | (exfalso; simp_all; done)
      | (exfalso; simp_all; omega)
  by_cases h2 : 1048576 < x
  · rw [show stp x = 1048576 by unfold stp; rw [if_neg h1, if_pos h2]]
    go_enter Tryd.func79, Tryd.ntmps79
    go_wp2
    all_goals first
      | (go_ret; exact ⟨rfl, rfl⟩; done)
      | (exfalso; simp_all; done)
      | (exfalso; simp_all; omega)
  rw [stp_id (by omega) (by omega)]
  go_enter Tryd.func79, Tryd.ntmps79
  go_wp2
  all_goals first
    | (go_ret; exact ⟨rfl, rfl⟩; done)
    | (exfalso; simp_all; done)
    | (exfalso; simp_all; omega)
theorem rmore_any (x : Int) (w : World) : Calls Tryd.prog 80 #[.int .i64 x] w fun e w' => e = .returned (.int .i64 (more x)) ∧ w' = w := by
  have a0 := stp_ge x; have a1 := stp_le x
  by_cases h : stp x < 1048576
  · rw [show more x = stp x + 1 by unfold more; rw [if_pos h]]
    go_enter Tryd.func80, Tryd.ntmps80
    go_wp2_with (first | (go_at_call 79; refine (rkept_any _ _).mono ?_; rintro e w' ⟨rfl, rfl⟩))
    all_goals first
      | (go_ret; exact ⟨rfl, rfl⟩; done)
      | (exfalso; simp_all; done)
      | (exfalso; simp_all; omega)
  · rw [show more x = stp x by unfold more; rw [if_neg h]; omega]
    go_enter Tryd.func80, Tryd.ntmps80
    go_wp2_with (first | (go_at_call 79; refine (rkept_any _ _).mono ?_; rintro e w' ⟨rfl, rfl⟩))
    all_goals first
      | (go_ret; exact ⟨rfl, rfl⟩; done)
      | (exfalso; simp_all; done)
      | (exfalso; simp_all; omega)
def goesB (a : Int) : Bool := decide (a = 1 ∨ a = 2 ∨ a = 3)
theorem rnext_any (a s e b : Int) (w : World) : Calls Tryd.prog 60 #[seenV a s e, .int .u8 b] w fun e' w' => e' = .returned (seenV b (sinceV a s b) (endedV e b)) ∧ Kept w w' none := by
  unfold sinceV endedV
  by_cases h1 : b = a
  · subst h1
    rw [if_pos rfl]
    by_cases h2 : b = 2
    · subst h2
      rw [if_pos rfl]
      go_enter Tryd.func60, Tryd.ntmps60
      go_wp2_with (first | (go_at_call 80; refine (rmore_any _ _).mono ?_; rintro e w' ⟨rfl, rfl⟩))
      all_goals first
        | (exact bodyPost_ret (v := seenV _ _ _) (by simp [results, Tryd.results60, go_sem]; done) rfl ⟨rfl, by repeat (first | exact Kept.refl _ _ | refine Kept.tr ?_ (Kept.alloc _ _ _ _ _))⟩; done)
        | (exfalso; simp_all; done)
        | (exfalso; simp_all; omega)
    · rw [if_neg h2]
      have h2b : (b == 2) = false := by simp [h2]
      go_enter Tryd.func60, Tryd.ntmps60
      go_wp2_with (first | (go_at_call 80; refine (rmore_any _ _).mono ?_; rintro e w' ⟨rfl, rfl⟩))
      all_goals first
        | (exact bodyPost_ret (v := seenV _ _ _) (by simp [results, Tryd.results60, go_sem]; done) rfl ⟨rfl, by repeat (first | exact Kept.refl _ _ | refine Kept.tr ?_ (Kept.alloc _ _ _ _ _))⟩; done)
        | (exfalso; simp_all; done)
        | (exfalso; simp_all; omega)
  · rw [if_neg h1]
    have h1b : (b == a) = false := by simp [h1]
    have h1c : (a == b) = false := by simp; exact fun h => h1 h.symm
    by_cases h2 : b = 2
    · subst h2
      rw [if_pos rfl]
      go_enter Tryd.func60, Tryd.ntmps60
      go_wp2_with (first | (go_at_call 80; refine (rmore_any _ _).mono ?_; rintro e w' ⟨rfl, rfl⟩))
      all_goals first
        | (exact bodyPost_ret (v := seenV _ _ _) (by simp [results, Tryd.results60, go_sem]; done) rfl ⟨rfl, by repeat (first | exact Kept.refl _ _ | refine Kept.tr ?_ (Kept.alloc _ _ _ _ _))⟩; done)
        | (exfalso; simp_all; done)
        | (exfalso; simp_all; omega)
    · rw [if_neg h2]
      have h2b : (b == 2) = false := by simp [h2]
      go_enter Tryd.func60, Tryd.ntmps60
      go_wp2_with (first | (go_at_call 80; refine (rmore_any _ _).mono ?_; rintro e w' ⟨rfl, rfl⟩))
      all_goals first
        | (exact bodyPost_ret (v := seenV _ _ _) (by simp [results, Tryd.results60, go_sem]; done) rfl ⟨rfl, by repeat (first | exact Kept.refl _ _ | refine Kept.tr ?_ (Kept.alloc _ _ _ _ _))⟩; done)
        | (exfalso; simp_all; done)
        | (exfalso; simp_all; omega)
theorem rwant_any (k m y a s e q : Int) (w : World) : Calls Tryd.prog 55 #[grpV k m y, seenV a s e, .int .u8 q] w fun e' w' => e' = .returned (.int .u8 (wantV m y a s q)) ∧ Kept w w' none := by
  unfold wantV
  by_cases h1 : a = 1
  · subst h1
    rw [if_pos rfl]
    by_cases h2 : q = 2
    · subst h2
      rw [if_pos rfl]
      go_enter Tryd.func55, Tryd.ntmps55
      go_wp2_with (first | (go_at_call 79; refine (rkept_any _ _).mono ?_; rintro e w' ⟨rfl, rfl⟩))
      all_goals first
        | (go_ret; exact ⟨rfl, by repeat (first | exact Kept.refl _ _ | refine Kept.tr ?_ (Kept.alloc _ _ _ _ _))⟩; done)
        | (exfalso; simp_all; done)
        | (exfalso; simp_all; omega)
    · rw [if_neg h2]
      have h2b : (q == 2) = false := by simp [h2]
      go_enter Tryd.func55, Tryd.ntmps55
      go_wp2_with (first | (go_at_call 79; refine (rkept_any _ _).mono ?_; rintro e w' ⟨rfl, rfl⟩))
      all_goals first
        | (go_ret; exact ⟨rfl, by repeat (first | exact Kept.refl _ _ | refine Kept.tr ?_ (Kept.alloc _ _ _ _ _))⟩; done)
        | (exfalso; simp_all; done)
        | (exfalso; simp_all; omega)
  rw [if_neg h1]
  have h1b : (a == 1) = false := by simp [h1]
  by_cases h2 : a = 2
  · subst h2
    rw [if_pos rfl]
    by_cases h3 : q = 2
    · subst h3
      rw [if_pos rfl]
      go_enter Tryd.func55, Tryd.ntmps55
      go_wp2_with (first | (go_at_call 79; refine (rkept_any _ _).mono ?_; rintro e w' ⟨rfl, rfl⟩))
      all_goals first
        | (go_ret; exact ⟨rfl, by repeat (first | exact Kept.refl _ _ | refine Kept.tr ?_ (Kept.alloc _ _ _ _ _))⟩; done)
        | (exfalso; simp_all; done)
        | (exfalso; simp_all; omega)
    rw [if_neg h3]
    have h3b : (q == 2) = false := by simp [h3]
    by_cases h4 : stp s < m
    · rw [if_pos h4]
      go_enter Tryd.func55, Tryd.ntmps55
      go_wp2_with (first | (go_at_call 79; refine (rkept_any _ _).mono ?_; rintro e w' ⟨rfl, rfl⟩))
      all_goals first
        | (go_ret; exact ⟨rfl, by repeat (first | exact Kept.refl _ _ | refine Kept.tr ?_ (Kept.alloc _ _ _ _ _))⟩; done)
        | (exfalso; simp_all; done)
        | (exfalso; simp_all; omega)
    · rw [if_neg h4]
      go_enter Tryd.func55, Tryd.ntmps55
      go_wp2_with (first | (go_at_call 79; refine (rkept_any _ _).mono ?_; rintro e w' ⟨rfl, rfl⟩))
      all_goals first
        | (go_ret; exact ⟨rfl, by repeat (first | exact Kept.refl _ _ | refine Kept.tr ?_ (Kept.alloc _ _ _ _ _))⟩; done)
        | (exfalso; simp_all; done)
        | (exfalso; simp_all; omega)
  rw [if_neg h2]
  have h2b : (a == 2) = false := by simp [h2]
  by_cases h3 : a = 3
  · subst h3
    rw [if_pos rfl]
    by_cases h4 : stp s < y
    · rw [if_pos h4]
      go_enter Tryd.func55, Tryd.ntmps55
      go_wp2_with (first | (go_at_call 79; refine (rkept_any _ _).mono ?_; rintro e w' ⟨rfl, rfl⟩))
      all_goals first
        | (go_ret; exact ⟨rfl, by repeat (first | exact Kept.refl _ _ | refine Kept.tr ?_ (Kept.alloc _ _ _ _ _))⟩; done)
        | (exfalso; simp_all; done)
        | (exfalso; simp_all; omega)
    · rw [if_neg h4]
      go_enter Tryd.func55, Tryd.ntmps55
      go_wp2_with (first | (go_at_call 79; refine (rkept_any _ _).mono ?_; rintro e w' ⟨rfl, rfl⟩))
      all_goals first
        | (go_ret; exact ⟨rfl, by repeat (first | exact Kept.refl _ _ | refine Kept.tr ?_ (Kept.alloc _ _ _ _ _))⟩; done)
        | (exfalso; simp_all; done)
        | (exfalso; simp_all; omega)
  rw [if_neg h3]
  have h3b : (a == 3) = false := by simp [h3]
  go_enter Tryd.func55, Tryd.ntmps55
  go_wp2_with (first | (go_at_call 79; refine (rkept_any _ _).mono ?_; rintro e w' ⟨rfl, rfl⟩))
  all_goals first
    | (go_ret; exact ⟨rfl, by repeat (first | exact Kept.refl _ _ | refine Kept.tr ?_ (Kept.alloc _ _ _ _ _))⟩; done)
    | (exfalso; simp_all; done)
    | (exfalso; simp_all; omega)
end Go.Proofs.YtkbhcpgdhbfhnaaDoor
