/-
  THE DOCUMENT'S OWN ANSWERS for one group of lights: the same numbers.
-/
import Derived.Test.YtpnmlgillphodaaDoorLampC
namespace Go.Proofs.YtpnmlgillphodaaDoor
open Go.RowKit Go.Lib Go.Deep
set_option linter.unusedVariables false
set_option linter.unusedSimpArgs false

theorem rkept_any (x : Int) (w : World) : Calls Tryd.prog 72 #[.int .i64 x] w fun e w' => e = .returned (.int .i64 (stp x)) ∧ w' = w := by
  by_cases h1 : x < 0
  · rw [show stp x = 0 by unfold stp; rw [if_pos h1]]
    go_enter Tryd.func72, Tryd.ntmps72
    go_wp2
    all_goals first
      | (go_ret; exact ⟨rfl, rfl⟩; done)
      | (exfalso; simp_all; done)
      | (exfalso; simp_all; omega)
  by_cases h2 : 1048576 < x
  · rw [show stp x = 1048576 by unfold stp; rw [if_neg h1, if_pos h2]]
    go_enter Tryd.func72, Tryd.ntmps72
    go_wp2
    all_goals first
      | (go_ret; exact ⟨rfl, rfl⟩; done)
      | (exfalso; simp_all; done)
      | (exfalso; simp_all; omega)
  rw [stp_id (by omega) (by omega)]
  go_enter Tryd.func72, Tryd.ntmps72
  go_wp2
  all_goals first
    | (go_ret; exact ⟨rfl, rfl⟩; done)
    | (exfalso; simp_all; done)
    | (exfalso; simp_all; omega)
theorem rmore_any (x : Int) (w : World) : Calls Tryd.prog 73 #[.int .i64 x] w fun e w' => e = .returned (.int .i64 (more x)) ∧ w' = w := by
  have a0 := stp_ge x; have a1 := stp_le x
  by_cases h : stp x < 1048576
  · rw [show more x = stp x + 1 by unfold more; rw [if_pos h]]
    go_enter Tryd.func73, Tryd.ntmps73
    go_wp2_with (first | (go_at_call 72; refine (rkept_any _ _).mono ?_; rintro e w' ⟨rfl, rfl⟩))
    all_goals first
      | (go_ret; exact ⟨rfl, rfl⟩; done)
      | (exfalso; simp_all; done)
      | (exfalso; simp_all; omega)
  · rw [show more x = stp x by unfold more; rw [if_neg h]; omega]
    go_enter Tryd.func73, Tryd.ntmps73
    go_wp2_with (first | (go_at_call 72; refine (rkept_any _ _).mono ?_; rintro e w' ⟨rfl, rfl⟩))
    all_goals first
      | (go_ret; exact ⟨rfl, rfl⟩; done)
      | (exfalso; simp_all; done)
      | (exfalso; simp_all; omega)
theorem rfollows_any (a b : Int) (w : World) : Calls Tryd.prog 71 #[.int .u8 a, .int .u8 b] w fun e w' => e = .returned (.bool (folB a b)) ∧ w' = w := by
  unfold folB
  by_cases h1 : a = 1
  · subst h1
    by_cases g : b = 2
    · subst g
      go_enter Tryd.func71, Tryd.ntmps71
      go_wp2
      all_goals first
        | (go_ret; exact ⟨rfl, rfl⟩; done)
        | (exfalso; simp_all; done)
        | (exfalso; simp_all; omega)
    · have gb : (b == 2) = false := by simp [g]
      go_enter Tryd.func71, Tryd.ntmps71
      go_wp2
      all_goals first
        | (go_ret; exact ⟨ret_bool (by simp [g]), rfl⟩; done)
        | (exfalso; simp_all; done)
        | (exfalso; simp_all; omega)
  have h1b : (a == 1) = false := by simp [h1]
  by_cases h2 : a = 2
  · subst h2
    by_cases g : b = 3
    · subst g
      go_enter Tryd.func71, Tryd.ntmps71
      go_wp2
      all_goals first
        | (go_ret; exact ⟨rfl, rfl⟩; done)
        | (exfalso; simp_all; done)
        | (exfalso; simp_all; omega)
    · have gb : (b == 3) = false := by simp [g]
      go_enter Tryd.func71, Tryd.ntmps71
      go_wp2
      all_goals first
        | (go_ret; exact ⟨ret_bool (by simp [g]), rfl⟩; done)
        | (exfalso; simp_all; done)
        | (exfalso; simp_all; omega)
  have h2b : (a == 2) = false := by simp [h2]
  by_cases h3 : a = 3
  · subst h3
    by_cases g : b = 1
    · subst g
      go_enter Tryd.func71, Tryd.ntmps71
      go_wp2
      all_goals first
        | (go_ret; exact ⟨rfl, rfl⟩; done)
        | (exfalso; simp_all; done)
        | (exfalso; simp_all; omega)
    · have gb : (b == 1) = false := by simp [g]
      go_enter Tryd.func71, Tryd.ntmps71
      go_wp2
      all_goals first
        | (go_ret; exact ⟨ret_bool (by simp [g]), rfl⟩; done)
        | (exfalso; simp_all; done)
        | (exfalso; simp_all; omega)
  have h3b : (a == 3) = false := by simp [h3]
  go_enter Tryd.func71, Tryd.ntmps71
  go_wp2
  all_goals first
    | (go_ret; exact ⟨ret_bool (by simp [h1, h2, h3]), rfl⟩; done)
    | (exfalso; simp_all; done)
    | (exfalso; simp_all; omega)
def goesB (a : Int) : Bool := decide (a = 1 ∨ a = 2 ∨ a = 3)
theorem rgoes_any (a : Int) (w : World) : Calls Tryd.prog 70 #[.int .u8 a] w fun e w' => e = .returned (.bool (goesB a)) ∧ w' = w := by
  unfold goesB
  by_cases h1 : a = 1
  · subst h1
    go_enter Tryd.func70, Tryd.ntmps70
    go_wp2
    all_goals first
      | (go_ret; exact ⟨rfl, rfl⟩; done)
      | (exfalso; simp_all; done)
      | (exfalso; simp_all; omega)
  have h1b : (a == 1) = false := by simp [h1]
  by_cases h2 : a = 2
  · subst h2
    go_enter Tryd.func70, Tryd.ntmps70
    go_wp2
    all_goals first
      | (go_ret; exact ⟨rfl, rfl⟩; done)
      | (exfalso; simp_all; done)
      | (exfalso; simp_all; omega)
  have h2b : (a == 2) = false := by simp [h2]
  by_cases h3 : a = 3
  · subst h3
    go_enter Tryd.func70, Tryd.ntmps70
    go_wp2
    all_goals first
      | (go_ret; exact ⟨rfl, rfl⟩; done)
      | (exfalso; simp_all; done)
      | (exfalso; simp_all; omega)
  have h3b : (a == 3) = false := by simp [h3]
  go_enter Tryd.func70, Tryd.ntmps70
  go_wp2
  all_goals first
    | (go_ret; exact ⟨ret_bool (by simp [h1, h2, h3]), rfl⟩; done)
    | (exfalso; simp_all; done)
    | (exfalso; simp_all; omega)
theorem rnext_any (a s e b : Int) (w : World) : Calls Tryd.prog 57 #[seenV a s e, .int .u8 b] w fun e' w' => e' = .returned (seenV b (sinceV a s b) (endedV e b)) ∧ Kept w w' none := by
  unfold sinceV endedV
  by_cases h1 : b = a
  · subst h1
    rw [if_pos rfl]
    by_cases h2 : b = 2
    · subst h2
      rw [if_pos rfl]
      go_enter Tryd.func57, Tryd.ntmps57
      go_wp2_with (first | (go_at_call 73; refine (rmore_any _ _).mono ?_; rintro e w' ⟨rfl, rfl⟩))
      all_goals first
        | (exact bodyPost_ret (v := seenV _ _ _) (by simp [results, Tryd.results57, go_sem]; done) rfl ⟨rfl, by repeat (first | exact Kept.refl _ _ | refine Kept.tr ?_ (Kept.alloc _ _ _ _ _))⟩; done)
        | (exfalso; simp_all; done)
        | (exfalso; simp_all; omega)
    · rw [if_neg h2]
      have h2b : (b == 2) = false := by simp [h2]
      go_enter Tryd.func57, Tryd.ntmps57
      go_wp2_with (first | (go_at_call 73; refine (rmore_any _ _).mono ?_; rintro e w' ⟨rfl, rfl⟩))
      all_goals first
        | (exact bodyPost_ret (v := seenV _ _ _) (by simp [results, Tryd.results57, go_sem]; done) rfl ⟨rfl, by repeat (first | exact Kept.refl _ _ | refine Kept.tr ?_ (Kept.alloc _ _ _ _ _))⟩; done)
        | (exfalso; simp_all; done)
        | (exfalso; simp_all; omega)
  · rw [if_neg h1]
    have h1b : (b == a) = false := by simp [h1]
    have h1c : (a == b) = false := by simp; exact fun h => h1 h.symm
    by_cases h2 : b = 2
    · subst h2
      rw [if_pos rfl]
      go_enter Tryd.func57, Tryd.ntmps57
      go_wp2_with (first | (go_at_call 73; refine (rmore_any _ _).mono ?_; rintro e w' ⟨rfl, rfl⟩))
      all_goals first
        | (exact bodyPost_ret (v := seenV _ _ _) (by simp [results, Tryd.results57, go_sem]; done) rfl ⟨rfl, by repeat (first | exact Kept.refl _ _ | refine Kept.tr ?_ (Kept.alloc _ _ _ _ _))⟩; done)
        | (exfalso; simp_all; done)
        | (exfalso; simp_all; omega)
    · rw [if_neg h2]
      have h2b : (b == 2) = false := by simp [h2]
      go_enter Tryd.func57, Tryd.ntmps57
      go_wp2_with (first | (go_at_call 73; refine (rmore_any _ _).mono ?_; rintro e w' ⟨rfl, rfl⟩))
      all_goals first
        | (exact bodyPost_ret (v := seenV _ _ _) (by simp [results, Tryd.results57, go_sem]; done) rfl ⟨rfl, by repeat (first | exact Kept.refl _ _ | refine Kept.tr ?_ (Kept.alloc _ _ _ _ _))⟩; done)
        | (exfalso; simp_all; done)
        | (exfalso; simp_all; omega)
set_option maxHeartbeats 4000000 in
theorem rmay_any (k m y a s e b : Int) (w : World) : Calls Tryd.prog 56 #[grpV k m y, seenV a s e, .int .u8 b] w fun e' w' => e' = .returned (.int .u8 (mayV m y a s b)) ∧ Kept w w' none := by
  unfold mayV
  have k1 : goesB 1 = true := rfl
  have k2 : goesB 2 = true := rfl
  have k3 : goesB 3 = true := rfl
  by_cases h1 : a = 1
  · subst h1
    rw [if_pos rfl]
    by_cases g1 : b = 1
    · subst g1
      rw [if_pos (by simp)]
      go_enter Tryd.func56, Tryd.ntmps56
      go_wp2_with (first | (go_at_call 70; refine (rgoes_any _ _).mono ?_; rintro e w' ⟨rfl, rfl⟩) | (go_at_call 71; refine (rfollows_any _ _ _).mono ?_; rintro e w' ⟨rfl, rfl⟩) | (go_at_call 72; refine (rkept_any _ _).mono ?_; rintro e w' ⟨rfl, rfl⟩))
      all_goals first
        | (go_ret; exact ⟨rfl, by repeat (first | exact Kept.refl _ _ | refine Kept.tr ?_ (Kept.alloc _ _ _ _ _))⟩; done)
        | (exfalso; simp_all; done)
        | (exfalso; simp_all; omega)
    by_cases g2 : b = 2
    · subst g2
      rw [if_pos (by simp)]
      have hfb : folB 1 2 = true := rfl
      go_enter Tryd.func56, Tryd.ntmps56
      go_wp2_with (first | (go_at_call 70; refine (rgoes_any _ _).mono ?_; rintro e w' ⟨rfl, rfl⟩) | (go_at_call 71; refine (rfollows_any _ _ _).mono ?_; rintro e w' ⟨rfl, rfl⟩) | (go_at_call 72; refine (rkept_any _ _).mono ?_; rintro e w' ⟨rfl, rfl⟩))
      all_goals first
        | (go_ret; exact ⟨rfl, by repeat (first | exact Kept.refl _ _ | refine Kept.tr ?_ (Kept.alloc _ _ _ _ _))⟩; done)
        | (exfalso; simp_all; done)
        | (exfalso; simp_all; omega)
    rw [if_neg (by omega)]
    have g1b : (b == 1) = false := by simp [g1]
    have g2b : (b == 2) = false := by simp [g2]
    have g1c : (1 == b) = false := by simp; omega
    have hfb : folB 1 b = false := by unfold folB; simp [g2]
    cases hg : goesB b
    · go_enter Tryd.func56, Tryd.ntmps56
      go_wp2_with (first | (go_at_call 70; refine (rgoes_any _ _).mono ?_; rintro e w' ⟨rfl, rfl⟩) | (go_at_call 71; refine (rfollows_any _ _ _).mono ?_; rintro e w' ⟨rfl, rfl⟩) | (go_at_call 72; refine (rkept_any _ _).mono ?_; rintro e w' ⟨rfl, rfl⟩))
      all_goals first
        | (go_ret; exact ⟨rfl, by repeat (first | exact Kept.refl _ _ | refine Kept.tr ?_ (Kept.alloc _ _ _ _ _))⟩; done)
        | (exfalso; simp_all; done)
        | (exfalso; simp_all; omega)
    · go_enter Tryd.func56, Tryd.ntmps56
      go_wp2_with (first | (go_at_call 70; refine (rgoes_any _ _).mono ?_; rintro e w' ⟨rfl, rfl⟩) | (go_at_call 71; refine (rfollows_any _ _ _).mono ?_; rintro e w' ⟨rfl, rfl⟩) | (go_at_call 72; refine (rkept_any _ _).mono ?_; rintro e w' ⟨rfl, rfl⟩))
      all_goals first
        | (go_ret; exact ⟨rfl, by repeat (first | exact Kept.refl _ _ | refine Kept.tr ?_ (Kept.alloc _ _ _ _ _))⟩; done)
        | (exfalso; simp_all; done)
        | (exfalso; simp_all; omega)
  rw [if_neg h1]
  have h1b : (a == 1) = false := by simp [h1]
  by_cases h2 : a = 2
  · subst h2
    rw [if_pos rfl]
    by_cases g2 : b = 2
    · subst g2
      rw [if_pos rfl]
      go_enter Tryd.func56, Tryd.ntmps56
      go_wp2_with (first | (go_at_call 70; refine (rgoes_any _ _).mono ?_; rintro e w' ⟨rfl, rfl⟩) | (go_at_call 71; refine (rfollows_any _ _ _).mono ?_; rintro e w' ⟨rfl, rfl⟩) | (go_at_call 72; refine (rkept_any _ _).mono ?_; rintro e w' ⟨rfl, rfl⟩))
      all_goals first
        | (go_ret; exact ⟨rfl, by repeat (first | exact Kept.refl _ _ | refine Kept.tr ?_ (Kept.alloc _ _ _ _ _))⟩; done)
        | (exfalso; simp_all; done)
        | (exfalso; simp_all; omega)
    rw [if_neg g2]
    have g2b : (b == 2) = false := by simp [g2]
    have g2c : (2 == b) = false := by simp; omega
    by_cases g3 : b = 3
    · subst g3
      rw [if_pos rfl]
      have hfb : folB 2 3 = true := rfl
      by_cases h4 : stp s < m
      · rw [if_pos h4]
        go_enter Tryd.func56, Tryd.ntmps56
        go_wp2_with (first | (go_at_call 70; refine (rgoes_any _ _).mono ?_; rintro e w' ⟨rfl, rfl⟩) | (go_at_call 71; refine (rfollows_any _ _ _).mono ?_; rintro e w' ⟨rfl, rfl⟩) | (go_at_call 72; refine (rkept_any _ _).mono ?_; rintro e w' ⟨rfl, rfl⟩))
        all_goals first
          | (go_ret; exact ⟨rfl, by repeat (first | exact Kept.refl _ _ | refine Kept.tr ?_ (Kept.alloc _ _ _ _ _))⟩; done)
          | (exfalso; simp_all; done)
          | (exfalso; simp_all; omega)
      · rw [if_neg h4]
        go_enter Tryd.func56, Tryd.ntmps56
        go_wp2_with (first | (go_at_call 70; refine (rgoes_any _ _).mono ?_; rintro e w' ⟨rfl, rfl⟩) | (go_at_call 71; refine (rfollows_any _ _ _).mono ?_; rintro e w' ⟨rfl, rfl⟩) | (go_at_call 72; refine (rkept_any _ _).mono ?_; rintro e w' ⟨rfl, rfl⟩))
        all_goals first
          | (go_ret; exact ⟨rfl, by repeat (first | exact Kept.refl _ _ | refine Kept.tr ?_ (Kept.alloc _ _ _ _ _))⟩; done)
          | (exfalso; simp_all; done)
          | (exfalso; simp_all; omega)
    rw [if_neg g3]
    have hfb : folB 2 b = false := by unfold folB; simp [g3]
    cases hg : goesB b
    · go_enter Tryd.func56, Tryd.ntmps56
      go_wp2_with (first | (go_at_call 70; refine (rgoes_any _ _).mono ?_; rintro e w' ⟨rfl, rfl⟩) | (go_at_call 71; refine (rfollows_any _ _ _).mono ?_; rintro e w' ⟨rfl, rfl⟩) | (go_at_call 72; refine (rkept_any _ _).mono ?_; rintro e w' ⟨rfl, rfl⟩))
      all_goals first
        | (go_ret; exact ⟨rfl, by repeat (first | exact Kept.refl _ _ | refine Kept.tr ?_ (Kept.alloc _ _ _ _ _))⟩; done)
        | (exfalso; simp_all; done)
        | (exfalso; simp_all; omega)
    · go_enter Tryd.func56, Tryd.ntmps56
      go_wp2_with (first | (go_at_call 70; refine (rgoes_any _ _).mono ?_; rintro e w' ⟨rfl, rfl⟩) | (go_at_call 71; refine (rfollows_any _ _ _).mono ?_; rintro e w' ⟨rfl, rfl⟩) | (go_at_call 72; refine (rkept_any _ _).mono ?_; rintro e w' ⟨rfl, rfl⟩))
      all_goals first
        | (go_ret; exact ⟨rfl, by repeat (first | exact Kept.refl _ _ | refine Kept.tr ?_ (Kept.alloc _ _ _ _ _))⟩; done)
        | (exfalso; simp_all; done)
        | (exfalso; simp_all; omega)
  rw [if_neg h2]
  have h2b : (a == 2) = false := by simp [h2]
  by_cases h3 : a = 3
  · subst h3
    rw [if_pos rfl]
    by_cases g3 : b = 3
    · subst g3
      rw [if_pos rfl]
      by_cases h4 : stp s < y
      · rw [if_pos h4]
        go_enter Tryd.func56, Tryd.ntmps56
        go_wp2_with (first | (go_at_call 70; refine (rgoes_any _ _).mono ?_; rintro e w' ⟨rfl, rfl⟩) | (go_at_call 71; refine (rfollows_any _ _ _).mono ?_; rintro e w' ⟨rfl, rfl⟩) | (go_at_call 72; refine (rkept_any _ _).mono ?_; rintro e w' ⟨rfl, rfl⟩))
        all_goals first
          | (go_ret; exact ⟨rfl, by repeat (first | exact Kept.refl _ _ | refine Kept.tr ?_ (Kept.alloc _ _ _ _ _))⟩; done)
          | (exfalso; simp_all; done)
          | (exfalso; simp_all; omega)
      · rw [if_neg h4]
        go_enter Tryd.func56, Tryd.ntmps56
        go_wp2_with (first | (go_at_call 70; refine (rgoes_any _ _).mono ?_; rintro e w' ⟨rfl, rfl⟩) | (go_at_call 71; refine (rfollows_any _ _ _).mono ?_; rintro e w' ⟨rfl, rfl⟩) | (go_at_call 72; refine (rkept_any _ _).mono ?_; rintro e w' ⟨rfl, rfl⟩))
        all_goals first
          | (go_ret; exact ⟨rfl, by repeat (first | exact Kept.refl _ _ | refine Kept.tr ?_ (Kept.alloc _ _ _ _ _))⟩; done)
          | (exfalso; simp_all; done)
          | (exfalso; simp_all; omega)
    rw [if_neg g3]
    have g3b : (b == 3) = false := by simp [g3]
    have g3c : (3 == b) = false := by simp; omega
    by_cases g1 : b = 1
    · subst g1
      rw [if_pos rfl]
      have hfb : folB 3 1 = true := rfl
      by_cases h4 : stp s < y
      · rw [if_pos h4]
        go_enter Tryd.func56, Tryd.ntmps56
        go_wp2_with (first | (go_at_call 70; refine (rgoes_any _ _).mono ?_; rintro e w' ⟨rfl, rfl⟩) | (go_at_call 71; refine (rfollows_any _ _ _).mono ?_; rintro e w' ⟨rfl, rfl⟩) | (go_at_call 72; refine (rkept_any _ _).mono ?_; rintro e w' ⟨rfl, rfl⟩))
        all_goals first
          | (go_ret; exact ⟨rfl, by repeat (first | exact Kept.refl _ _ | refine Kept.tr ?_ (Kept.alloc _ _ _ _ _))⟩; done)
          | (exfalso; simp_all; done)
          | (exfalso; simp_all; omega)
      · rw [if_neg h4]
        go_enter Tryd.func56, Tryd.ntmps56
        go_wp2_with (first | (go_at_call 70; refine (rgoes_any _ _).mono ?_; rintro e w' ⟨rfl, rfl⟩) | (go_at_call 71; refine (rfollows_any _ _ _).mono ?_; rintro e w' ⟨rfl, rfl⟩) | (go_at_call 72; refine (rkept_any _ _).mono ?_; rintro e w' ⟨rfl, rfl⟩))
        all_goals first
          | (go_ret; exact ⟨rfl, by repeat (first | exact Kept.refl _ _ | refine Kept.tr ?_ (Kept.alloc _ _ _ _ _))⟩; done)
          | (exfalso; simp_all; done)
          | (exfalso; simp_all; omega)
    rw [if_neg g1]
    have hfb : folB 3 b = false := by unfold folB; simp [g1]
    cases hg : goesB b
    · go_enter Tryd.func56, Tryd.ntmps56
      go_wp2_with (first | (go_at_call 70; refine (rgoes_any _ _).mono ?_; rintro e w' ⟨rfl, rfl⟩) | (go_at_call 71; refine (rfollows_any _ _ _).mono ?_; rintro e w' ⟨rfl, rfl⟩) | (go_at_call 72; refine (rkept_any _ _).mono ?_; rintro e w' ⟨rfl, rfl⟩))
      all_goals first
        | (go_ret; exact ⟨rfl, by repeat (first | exact Kept.refl _ _ | refine Kept.tr ?_ (Kept.alloc _ _ _ _ _))⟩; done)
        | (exfalso; simp_all; done)
        | (exfalso; simp_all; omega)
    · go_enter Tryd.func56, Tryd.ntmps56
      go_wp2_with (first | (go_at_call 70; refine (rgoes_any _ _).mono ?_; rintro e w' ⟨rfl, rfl⟩) | (go_at_call 71; refine (rfollows_any _ _ _).mono ?_; rintro e w' ⟨rfl, rfl⟩) | (go_at_call 72; refine (rkept_any _ _).mono ?_; rintro e w' ⟨rfl, rfl⟩))
      all_goals first
        | (go_ret; exact ⟨rfl, by repeat (first | exact Kept.refl _ _ | refine Kept.tr ?_ (Kept.alloc _ _ _ _ _))⟩; done)
        | (exfalso; simp_all; done)
        | (exfalso; simp_all; omega)
  rw [if_neg h3]
  have hg : goesB a = false := by unfold goesB; simp [h1, h2, h3]
  go_enter Tryd.func56, Tryd.ntmps56
  go_wp2_with (first | (go_at_call 70; refine (rgoes_any _ _).mono ?_; rintro e w' ⟨rfl, rfl⟩) | (go_at_call 71; refine (rfollows_any _ _ _).mono ?_; rintro e w' ⟨rfl, rfl⟩) | (go_at_call 72; refine (rkept_any _ _).mono ?_; rintro e w' ⟨rfl, rfl⟩))
  all_goals first
    | (go_ret; exact ⟨rfl, by repeat (first | exact Kept.refl _ _ | refine Kept.tr ?_ (Kept.alloc _ _ _ _ _))⟩; done)
    | (exfalso; simp_all; done)
    | (exfalso; simp_all; omega)

end Go.Proofs.YtpnmlgillphodaaDoor
