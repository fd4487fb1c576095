/-
  THE CONTRACTS of package lamp: what each call answers; nothing that was there has turned.
-/
import Derived.Test.YtfhmfanmnhclfaaDoorLampM
import Derived.Test.YtfhmfanmnhclfaaDoorRows
import Derived.DeepKeys
namespace Go.Proofs.YtfhmfanmnhclfaaDoor
open Go.RowKit Go.Lib Go.Deep
set_option linter.unusedVariables false
set_option linter.unusedSimpArgs false

theorem stop_any (x : Int) (w : World) : Calls Tryd.prog 108 #[.int .i64 x] w fun e w' => e = .returned (.int .i64 (stp x)) ∧ w' = w := by
  by_cases h1 : x < 0
  · rw [show stp x = 0 by unfold stp; rw [if_pos h1]]
    go_enter Tryd.func108, Tryd.ntmps108
    go_wp2
    go_ret
    exact ⟨rfl, rfl⟩
  · by_cases h2 : 1048576 < x
    · rw [show stp x = 1048576 by unfold stp; rw [if_neg h1, if_pos h2]]
      go_enter Tryd.func108, Tryd.ntmps108
      go_wp2
      go_ret
      exact ⟨rfl, rfl⟩
    · rw [stp_id (by omega) (by omega)]
      go_enter Tryd.func108, Tryd.ntmps108
      go_wp2
      go_ret
      exact ⟨rfl, rfl⟩
theorem more_any (x : Int) (w : World) : Calls Tryd.prog 113 #[.int .i64 x] w fun e w' => e = .returned (.int .i64 (more x)) ∧ w' = w := by
  have a0 := stp_ge x; have a1 := stp_le x
  go_enter Tryd.func113, Tryd.ntmps113
  go_wp2_with (go_at_call 108; refine (stop_any _ _).mono ?_; rintro e w' ⟨rfl, rfl⟩)
  go_ret
  exact ⟨ret_int (stp_more x), rfl⟩
theorem eq8 (x y : Int) (w : World) : (Op.equalIn 9999 5 (.int .u8 x) (.int .u8 y)).run Tryd.prog w = .ok (x == y) w := run_equalIn_int w 9998 5 .u8 .u8 x y Tryd.underlying5
theorem eq64 (x y : Int) (w : World) : (Op.equalIn 9999 3 (.int .i64 x) (.int .i64 y)).run Tryd.prog w = .ok (x == y) w := run_equalIn_int w 9998 3 .i64 .i64 x y Tryd.underlying3
theorem pt8 {xs : Array Value} {k : Nat} {n : Int} (w : World) (h : xs[k]? = some (.int .u8 n)) : (part 5 xs k).run Tryd.prog w = .ok (.int .u8 n) w := run_part_plain w (by kernel_rfl) h
theorem pt64 {xs : Array Value} {k : Nat} {n : Int} (w : World) (h : xs[k]? = some (.int .i64 n)) : (part 3 xs k).run Tryd.prog w = .ok (.int .i64 n) w := run_part_plain w (by kernel_rfl) h
theorem eq_pair (a b c d : Int) (w : World) : (Op.equalIn 10000 144 (.agg #[.int .u8 a, .int .u8 b]) (.agg #[.int .u8 c, .int .u8 d])).run Tryd.prog w = .ok (decide (a = c ∧ b = d)) w := by
  have hu : Tryd.prog.underlying 144 = some (.array 2 5) := by kernel_rfl
  obtain ⟨i, hi⟩ := info_of_underlying (P := Tryd.prog) (t := 5) Tryd.underlying5
  have hc : Tryd.prog.cellsOf 5 = 1 := by kernel_rfl
  rw [show (10000 : Nat) = 9999 + 1 from rfl, run_equalIn_array w 9999 _ _ hu hi, hc]
  have p0 : ∀ w, (part 5 #[.int .u8 a, .int .u8 b] 0).run Tryd.prog w = .ok (.int .u8 a) w := fun w => pt8 w rfl
  have p1 : ∀ w, (part 5 #[.int .u8 a, .int .u8 b] 1).run Tryd.prog w = .ok (.int .u8 b) w := fun w => pt8 w rfl
  have q0 : ∀ w, (part 5 #[.int .u8 c, .int .u8 d] 0).run Tryd.prog w = .ok (.int .u8 c) w := fun w => pt8 w rfl
  have q1 : ∀ w, (part 5 #[.int .u8 c, .int .u8 d] 1).run Tryd.prog w = .ok (.int .u8 d) w := fun w => pt8 w rfl
  simp only [show List.range 2 = [0, 1] from rfl, Op.eqItems, Sem.run_bind, Result.andThen_ok, Nat.zero_mul, Nat.one_mul, p0, q0, eq8]
  by_cases h1 : a = c
  · subst h1
    simp only [beq_self_eq_true, Bool.not_true, Bool.false_eq_true, if_false, Sem.run_bind, Result.andThen_ok, p1, q1, eq8]
    by_cases h2 : b = d <;> simp [h2]
  · simp [h1]
theorem follows_any (a b : Int) (w : World) : Calls Tryd.prog 120 #[.int .u8 a, .int .u8 b] w fun e w' => e = .returned (.bool (folB a b)) ∧ Kept w w' none := by
  have h := eq_pair
  unfold folB
  go_enter Tryd.func120, Tryd.ntmps120
  go_wp2
  all_goals
    go_ret
    refine ⟨ret_bool ?_, Kept.alloc _ _ _ _ _⟩
    rename_i hh
    by_cases h1 : a = 1 <;> by_cases h2 : a = 2 <;> by_cases h3 : a = 3 <;> by_cases h4 : b = 1 <;> by_cases h5 : b = 2 <;> by_cases h6 : b = 3 <;> simp_all
theorem box_kept {w w' : World} {g s : Array Value} {t u : TypeId} (hk : Kept ((w.alloc (.cells g t)).alloc (.cells s u)) w' none) : (∀ (i : Nat) v, g[i]? = some v → w'.cell? ⟨w.heap.size, i, none⟩ = some v) ∧ (∀ (i : Nat) v, s[i]? = some v → w'.cell? ⟨w.heap.size + 1, i, none⟩ = some v) := by
  refine ⟨fun i v h => ?_, fun i v h => ?_⟩
  · rw [World.cell?_of_block (w := (w.alloc (.cells g t)).alloc (.cells s u)) (a := ⟨w.heap.size, i, none⟩) (hk.block _ (by simp; omega) (by simp))]
    first | (simp [h]; done) | (simp [World.cell?, h]; done) | (simp [World.cell?, World.alloc_eq, h]; done) | (simp [go_sem, h]; done)
  · rw [World.cell?_of_block (w := (w.alloc (.cells g t)).alloc (.cells s u)) (a := ⟨w.heap.size + 1, i, none⟩) (hk.block _ (by simp) (by simp))]
    first | (simp [h]; done) | (simp [World.cell?, h]; done) | (simp [World.cell?, World.alloc_eq, h]; done) | (simp [go_sem, h]; done)
theorem next_any (k m y a s e b : Int) (w : World) : Calls Tryd.prog 92 #[grpV k m y, seenV a s e, .int .u8 b] w fun e' w' => e' = .returned (seenV b (sinceV a s b) (endedV e b)) ∧ Kept w w' none := by
  unfold sinceV endedV
  by_cases h1 : b = a
  · subst h1
    rw [if_pos rfl]
    by_cases h2 : b = 2
    · subst h2
      rw [if_pos rfl]
      go_enter Tryd.func92, Tryd.ntmps92
      go_wp2_with (first | (go_at_call 113; refine (more_any _ _).mono ?_; rintro e w' ⟨rfl, rfl⟩))
      all_goals first
        | (exact bodyPost_ret (v := seenV _ _ _) (by simp [results, Tryd.results92, go_sem]; done) rfl ⟨rfl, by repeat (first | exact Kept.refl _ _ | refine Kept.tr ?_ (Kept.alloc _ _ _ _ _))⟩; done)
        | (exfalso; simp_all; done)
        | (exfalso; simp_all; omega)
    · rw [if_neg h2]
      have h2b : (b == 2) = false := by simp [h2]
      go_enter Tryd.func92, Tryd.ntmps92
      go_wp2_with (first | (go_at_call 113; refine (more_any _ _).mono ?_; rintro e w' ⟨rfl, rfl⟩))
      all_goals first
        | (exact bodyPost_ret (v := seenV _ _ _) (by simp [results, Tryd.results92, go_sem]; done) rfl ⟨rfl, by repeat (first | exact Kept.refl _ _ | refine Kept.tr ?_ (Kept.alloc _ _ _ _ _))⟩; done)
        | (exfalso; simp_all; done)
        | (exfalso; simp_all; omega)
  · rw [if_neg h1]
    have h1b : (b == a) = false := by simp [h1]
    by_cases h2 : b = 2
    · subst h2
      rw [if_pos rfl]
      go_enter Tryd.func92, Tryd.ntmps92
      go_wp2_with (first | (go_at_call 113; refine (more_any _ _).mono ?_; rintro e w' ⟨rfl, rfl⟩))
      all_goals first
        | (exact bodyPost_ret (v := seenV _ _ _) (by simp [results, Tryd.results92, go_sem]; done) rfl ⟨rfl, by repeat (first | exact Kept.refl _ _ | refine Kept.tr ?_ (Kept.alloc _ _ _ _ _))⟩; done)
        | (exfalso; simp_all; done)
        | (exfalso; simp_all; omega)
    · rw [if_neg h2]
      have h2b : (b == 2) = false := by simp [h2]
      go_enter Tryd.func92, Tryd.ntmps92
      go_wp2_with (first | (go_at_call 113; refine (more_any _ _).mono ?_; rintro e w' ⟨rfl, rfl⟩))
      all_goals first
        | (exact bodyPost_ret (v := seenV _ _ _) (by simp [results, Tryd.results92, go_sem]; done) rfl ⟨rfl, by repeat (first | exact Kept.refl _ _ | refine Kept.tr ?_ (Kept.alloc _ _ _ _ _))⟩; done)
        | (exfalso; simp_all; done)
        | (exfalso; simp_all; omega)
theorem want_any (k m y a s e q : Int) (w : World) : Calls Tryd.prog 86 #[grpV k m y, seenV a s e, .int .u8 q] w fun e' w' => e' = .returned (.int .u8 (wantV m y a s q)) ∧ Kept w w' none := by
  unfold wantV
  by_cases h1 : a = 1
  · subst h1
    rw [if_pos rfl]
    by_cases h2 : q = 2
    · subst h2
      rw [if_pos rfl]
      go_enter Tryd.func86, Tryd.ntmps86
      go_wp2_with (first | (go_at_call 108; refine (stop_any _ _).mono ?_; rintro e w' ⟨rfl, rfl⟩))
      all_goals first
        | (go_ret; exact ⟨rfl, by repeat (first | exact Kept.refl _ _ | refine Kept.tr ?_ (Kept.alloc _ _ _ _ _))⟩; done)
        | (exfalso; simp_all; done)
        | (exfalso; simp_all; omega)
    · rw [if_neg h2]
      have h2b : (q == 2) = false := by simp [h2]
      go_enter Tryd.func86, Tryd.ntmps86
      go_wp2_with (first | (go_at_call 108; refine (stop_any _ _).mono ?_; rintro e w' ⟨rfl, rfl⟩))
      all_goals first
        | (go_ret; exact ⟨rfl, by repeat (first | exact Kept.refl _ _ | refine Kept.tr ?_ (Kept.alloc _ _ _ _ _))⟩; done)
        | (exfalso; simp_all; done)
        | (exfalso; simp_all; omega)
  rw [if_neg h1]
  have h1b : (a == 1) = false := by simp [h1]
  by_cases h2 : a = 2
  · subst h2
    rw [if_pos rfl]
    by_cases h3 : q = 2
    · subst h3
      rw [if_pos rfl]
      go_enter Tryd.func86, Tryd.ntmps86
      go_wp2_with (first | (go_at_call 108; refine (stop_any _ _).mono ?_; rintro e w' ⟨rfl, rfl⟩))
      all_goals first
        | (go_ret; exact ⟨rfl, by repeat (first | exact Kept.refl _ _ | refine Kept.tr ?_ (Kept.alloc _ _ _ _ _))⟩; done)
        | (exfalso; simp_all; done)
        | (exfalso; simp_all; omega)
    rw [if_neg h3]
    have h3b : (q == 2) = false := by simp [h3]
    by_cases h4 : stp s < m
    · rw [if_pos h4]
      go_enter Tryd.func86, Tryd.ntmps86
      go_wp2_with (first | (go_at_call 108; refine (stop_any _ _).mono ?_; rintro e w' ⟨rfl, rfl⟩))
      all_goals first
        | (go_ret; exact ⟨rfl, by repeat (first | exact Kept.refl _ _ | refine Kept.tr ?_ (Kept.alloc _ _ _ _ _))⟩; done)
        | (exfalso; simp_all; done)
        | (exfalso; simp_all; omega)
    · rw [if_neg h4]
      go_enter Tryd.func86, Tryd.ntmps86
      go_wp2_with (first | (go_at_call 108; refine (stop_any _ _).mono ?_; rintro e w' ⟨rfl, rfl⟩))
      all_goals first
        | (go_ret; exact ⟨rfl, by repeat (first | exact Kept.refl _ _ | refine Kept.tr ?_ (Kept.alloc _ _ _ _ _))⟩; done)
        | (exfalso; simp_all; done)
        | (exfalso; simp_all; omega)
  rw [if_neg h2]
  have h2b : (a == 2) = false := by simp [h2]
  by_cases h3 : a = 3
  · subst h3
    rw [if_pos rfl]
    by_cases h4 : stp s < y
    · rw [if_pos h4]
      go_enter Tryd.func86, Tryd.ntmps86
      go_wp2_with (first | (go_at_call 108; refine (stop_any _ _).mono ?_; rintro e w' ⟨rfl, rfl⟩))
      all_goals first
        | (go_ret; exact ⟨rfl, by repeat (first | exact Kept.refl _ _ | refine Kept.tr ?_ (Kept.alloc _ _ _ _ _))⟩; done)
        | (exfalso; simp_all; done)
        | (exfalso; simp_all; omega)
    · rw [if_neg h4]
      go_enter Tryd.func86, Tryd.ntmps86
      go_wp2_with (first | (go_at_call 108; refine (stop_any _ _).mono ?_; rintro e w' ⟨rfl, rfl⟩))
      all_goals first
        | (go_ret; exact ⟨rfl, by repeat (first | exact Kept.refl _ _ | refine Kept.tr ?_ (Kept.alloc _ _ _ _ _))⟩; done)
        | (exfalso; simp_all; done)
        | (exfalso; simp_all; omega)
  rw [if_neg h3]
  have h3b : (a == 3) = false := by simp [h3]
  go_enter Tryd.func86, Tryd.ntmps86
  go_wp2_with (first | (go_at_call 108; refine (stop_any _ _).mono ?_; rintro e w' ⟨rfl, rfl⟩))
  all_goals first
    | (go_ret; exact ⟨rfl, by repeat (first | exact Kept.refl _ _ | refine Kept.tr ?_ (Kept.alloc _ _ _ _ _))⟩; done)
    | (exfalso; simp_all; done)
    | (exfalso; simp_all; omega)
theorem may_any (k m y a s e b : Int) (w : World) : Calls Tryd.prog 112 #[grpV k m y, seenV a s e, .int .u8 b] w fun e' w' => e' = .returned (.int .u8 (mayV m y a s b)) ∧ Kept w w' none := by
  unfold mayV
  by_cases h1 : a = 1
  · subst h1
    rw [if_pos rfl]
    by_cases g1 : b = 1
    · subst g1
      rw [if_pos (by simp)]
      go_enter Tryd.func112, Tryd.ntmps112
      go_wp2_with (first | (go_at_call 120; refine (follows_any _ _ _).mono ?_; rintro e w' ⟨rfl, hk⟩; obtain ⟨cg, cs⟩ := box_kept hk; have c0 := cs 0 _ rfl; have c1 := cs 1 _ rfl; have d1 := cg 1 _ rfl; have d2 := cg 2 _ rfl; clear cg cs) | (go_at_call 108; refine (stop_any _ _).mono ?_; rintro e w' ⟨rfl, rfl⟩))
      all_goals first
        | (go_ret; exact ⟨rfl, by first | ((repeat (first | exact Kept.refl _ _ | refine Kept.tr ?_ (Kept.alloc _ _ _ _ _))); done) | (refine Kept.tr ?_ hk; repeat (first | exact Kept.refl _ _ | refine Kept.tr ?_ (Kept.alloc _ _ _ _ _)))⟩; done)
        | (exfalso; simp_all; done)
        | (exfalso; simp_all; omega)
    by_cases g2 : b = 2
    · subst g2
      rw [if_pos (by simp)]
      have hfb : folB 1 2 = true := rfl
      go_enter Tryd.func112, Tryd.ntmps112
      go_wp2_with (first | (go_at_call 120; refine (follows_any _ _ _).mono ?_; rintro e w' ⟨rfl, hk⟩; obtain ⟨cg, cs⟩ := box_kept hk; have c0 := cs 0 _ rfl; have c1 := cs 1 _ rfl; have d1 := cg 1 _ rfl; have d2 := cg 2 _ rfl; clear cg cs) | (go_at_call 108; refine (stop_any _ _).mono ?_; rintro e w' ⟨rfl, rfl⟩))
      all_goals first
        | (go_ret; exact ⟨rfl, by first | ((repeat (first | exact Kept.refl _ _ | refine Kept.tr ?_ (Kept.alloc _ _ _ _ _))); done) | (refine Kept.tr ?_ hk; repeat (first | exact Kept.refl _ _ | refine Kept.tr ?_ (Kept.alloc _ _ _ _ _)))⟩; done)
        | (exfalso; simp_all; done)
        | (exfalso; simp_all; omega)
    rw [if_neg (by omega)]
    have g1b : (b == 1) = false := by simp [g1]
    have g2b : (b == 2) = false := by simp [g2]
    have hfb : folB 1 b = false := by unfold folB; simp [g2]
    go_enter Tryd.func112, Tryd.ntmps112
    go_wp2_with (first | (go_at_call 120; refine (follows_any _ _ _).mono ?_; rintro e w' ⟨rfl, hk⟩; obtain ⟨cg, cs⟩ := box_kept hk; have c0 := cs 0 _ rfl; have c1 := cs 1 _ rfl; have d1 := cg 1 _ rfl; have d2 := cg 2 _ rfl; clear cg cs) | (go_at_call 108; refine (stop_any _ _).mono ?_; rintro e w' ⟨rfl, rfl⟩))
    all_goals first
      | (go_ret; exact ⟨rfl, by first | ((repeat (first | exact Kept.refl _ _ | refine Kept.tr ?_ (Kept.alloc _ _ _ _ _))); done) | (refine Kept.tr ?_ hk; repeat (first | exact Kept.refl _ _ | refine Kept.tr ?_ (Kept.alloc _ _ _ _ _)))⟩; done)
      | (exfalso; simp_all; done)
      | (exfalso; simp_all; omega)
  rw [if_neg h1]
  have h1b : (a == 1) = false := by simp [h1]
  by_cases h2 : a = 2
  · subst h2
    rw [if_pos rfl]
    by_cases g2 : b = 2
    · subst g2
      rw [if_pos rfl]
      go_enter Tryd.func112, Tryd.ntmps112
      go_wp2_with (first | (go_at_call 120; refine (follows_any _ _ _).mono ?_; rintro e w' ⟨rfl, hk⟩; obtain ⟨cg, cs⟩ := box_kept hk; have c0 := cs 0 _ rfl; have c1 := cs 1 _ rfl; have d1 := cg 1 _ rfl; have d2 := cg 2 _ rfl; clear cg cs) | (go_at_call 108; refine (stop_any _ _).mono ?_; rintro e w' ⟨rfl, rfl⟩))
      all_goals first
        | (go_ret; exact ⟨rfl, by first | ((repeat (first | exact Kept.refl _ _ | refine Kept.tr ?_ (Kept.alloc _ _ _ _ _))); done) | (refine Kept.tr ?_ hk; repeat (first | exact Kept.refl _ _ | refine Kept.tr ?_ (Kept.alloc _ _ _ _ _)))⟩; done)
        | (exfalso; simp_all; done)
        | (exfalso; simp_all; omega)
    rw [if_neg g2]
    have g2b : (b == 2) = false := by simp [g2]
    by_cases g3 : b = 3
    · subst g3
      rw [if_pos rfl]
      have hfb : folB 2 3 = true := rfl
      by_cases h4 : stp s < m
      · rw [if_pos h4]
        go_enter Tryd.func112, Tryd.ntmps112
        go_wp2_with (first | (go_at_call 120; refine (follows_any _ _ _).mono ?_; rintro e w' ⟨rfl, hk⟩; obtain ⟨cg, cs⟩ := box_kept hk; have c0 := cs 0 _ rfl; have c1 := cs 1 _ rfl; have d1 := cg 1 _ rfl; have d2 := cg 2 _ rfl; clear cg cs) | (go_at_call 108; refine (stop_any _ _).mono ?_; rintro e w' ⟨rfl, rfl⟩))
        all_goals first
          | (go_ret; exact ⟨rfl, by first | ((repeat (first | exact Kept.refl _ _ | refine Kept.tr ?_ (Kept.alloc _ _ _ _ _))); done) | (refine Kept.tr ?_ hk; repeat (first | exact Kept.refl _ _ | refine Kept.tr ?_ (Kept.alloc _ _ _ _ _)))⟩; done)
          | (exfalso; simp_all; done)
          | (exfalso; simp_all; omega)
      · rw [if_neg h4]
        go_enter Tryd.func112, Tryd.ntmps112
        go_wp2_with (first | (go_at_call 120; refine (follows_any _ _ _).mono ?_; rintro e w' ⟨rfl, hk⟩; obtain ⟨cg, cs⟩ := box_kept hk; have c0 := cs 0 _ rfl; have c1 := cs 1 _ rfl; have d1 := cg 1 _ rfl; have d2 := cg 2 _ rfl; clear cg cs) | (go_at_call 108; refine (stop_any _ _).mono ?_; rintro e w' ⟨rfl, rfl⟩))
        all_goals first
          | (go_ret; exact ⟨rfl, by first | ((repeat (first | exact Kept.refl _ _ | refine Kept.tr ?_ (Kept.alloc _ _ _ _ _))); done) | (refine Kept.tr ?_ hk; repeat (first | exact Kept.refl _ _ | refine Kept.tr ?_ (Kept.alloc _ _ _ _ _)))⟩; done)
          | (exfalso; simp_all; done)
          | (exfalso; simp_all; omega)
    rw [if_neg g3]
    have hfb : folB 2 b = false := by unfold folB; simp [g3]
    go_enter Tryd.func112, Tryd.ntmps112
    go_wp2_with (first | (go_at_call 120; refine (follows_any _ _ _).mono ?_; rintro e w' ⟨rfl, hk⟩; obtain ⟨cg, cs⟩ := box_kept hk; have c0 := cs 0 _ rfl; have c1 := cs 1 _ rfl; have d1 := cg 1 _ rfl; have d2 := cg 2 _ rfl; clear cg cs) | (go_at_call 108; refine (stop_any _ _).mono ?_; rintro e w' ⟨rfl, rfl⟩))
    all_goals first
      | (go_ret; exact ⟨rfl, by first | ((repeat (first | exact Kept.refl _ _ | refine Kept.tr ?_ (Kept.alloc _ _ _ _ _))); done) | (refine Kept.tr ?_ hk; repeat (first | exact Kept.refl _ _ | refine Kept.tr ?_ (Kept.alloc _ _ _ _ _)))⟩; done)
      | (exfalso; simp_all; done)
      | (exfalso; simp_all; omega)
  rw [if_neg h2]
  have h2b : (a == 2) = false := by simp [h2]
  by_cases h3 : a = 3
  · subst h3
    rw [if_pos rfl]
    by_cases g3 : b = 3
    · subst g3
      rw [if_pos rfl]
      by_cases h4 : stp s < y
      · rw [if_pos h4]
        go_enter Tryd.func112, Tryd.ntmps112
        go_wp2_with (first | (go_at_call 120; refine (follows_any _ _ _).mono ?_; rintro e w' ⟨rfl, hk⟩; obtain ⟨cg, cs⟩ := box_kept hk; have c0 := cs 0 _ rfl; have c1 := cs 1 _ rfl; have d1 := cg 1 _ rfl; have d2 := cg 2 _ rfl; clear cg cs) | (go_at_call 108; refine (stop_any _ _).mono ?_; rintro e w' ⟨rfl, rfl⟩))
        all_goals first
          | (go_ret; exact ⟨rfl, by first | ((repeat (first | exact Kept.refl _ _ | refine Kept.tr ?_ (Kept.alloc _ _ _ _ _))); done) | (refine Kept.tr ?_ hk; repeat (first | exact Kept.refl _ _ | refine Kept.tr ?_ (Kept.alloc _ _ _ _ _)))⟩; done)
          | (exfalso; simp_all; done)
          | (exfalso; simp_all; omega)
      · rw [if_neg h4]
        go_enter Tryd.func112, Tryd.ntmps112
        go_wp2_with (first | (go_at_call 120; refine (follows_any _ _ _).mono ?_; rintro e w' ⟨rfl, hk⟩; obtain ⟨cg, cs⟩ := box_kept hk; have c0 := cs 0 _ rfl; have c1 := cs 1 _ rfl; have d1 := cg 1 _ rfl; have d2 := cg 2 _ rfl; clear cg cs) | (go_at_call 108; refine (stop_any _ _).mono ?_; rintro e w' ⟨rfl, rfl⟩))
        all_goals first
          | (go_ret; exact ⟨rfl, by first | ((repeat (first | exact Kept.refl _ _ | refine Kept.tr ?_ (Kept.alloc _ _ _ _ _))); done) | (refine Kept.tr ?_ hk; repeat (first | exact Kept.refl _ _ | refine Kept.tr ?_ (Kept.alloc _ _ _ _ _)))⟩; done)
          | (exfalso; simp_all; done)
          | (exfalso; simp_all; omega)
    rw [if_neg g3]
    have g3b : (b == 3) = false := by simp [g3]
    by_cases g1 : b = 1
    · subst g1
      rw [if_pos rfl]
      have hfb : folB 3 1 = true := rfl
      by_cases h4 : stp s < y
      · rw [if_pos h4]
        go_enter Tryd.func112, Tryd.ntmps112
        go_wp2_with (first | (go_at_call 120; refine (follows_any _ _ _).mono ?_; rintro e w' ⟨rfl, hk⟩; obtain ⟨cg, cs⟩ := box_kept hk; have c0 := cs 0 _ rfl; have c1 := cs 1 _ rfl; have d1 := cg 1 _ rfl; have d2 := cg 2 _ rfl; clear cg cs) | (go_at_call 108; refine (stop_any _ _).mono ?_; rintro e w' ⟨rfl, rfl⟩))
        all_goals first
          | (go_ret; exact ⟨rfl, by first | ((repeat (first | exact Kept.refl _ _ | refine Kept.tr ?_ (Kept.alloc _ _ _ _ _))); done) | (refine Kept.tr ?_ hk; repeat (first | exact Kept.refl _ _ | refine Kept.tr ?_ (Kept.alloc _ _ _ _ _)))⟩; done)
          | (exfalso; simp_all; done)
          | (exfalso; simp_all; omega)
      · rw [if_neg h4]
        go_enter Tryd.func112, Tryd.ntmps112
        go_wp2_with (first | (go_at_call 120; refine (follows_any _ _ _).mono ?_; rintro e w' ⟨rfl, hk⟩; obtain ⟨cg, cs⟩ := box_kept hk; have c0 := cs 0 _ rfl; have c1 := cs 1 _ rfl; have d1 := cg 1 _ rfl; have d2 := cg 2 _ rfl; clear cg cs) | (go_at_call 108; refine (stop_any _ _).mono ?_; rintro e w' ⟨rfl, rfl⟩))
        all_goals first
          | (go_ret; exact ⟨rfl, by first | ((repeat (first | exact Kept.refl _ _ | refine Kept.tr ?_ (Kept.alloc _ _ _ _ _))); done) | (refine Kept.tr ?_ hk; repeat (first | exact Kept.refl _ _ | refine Kept.tr ?_ (Kept.alloc _ _ _ _ _)))⟩; done)
          | (exfalso; simp_all; done)
          | (exfalso; simp_all; omega)
    rw [if_neg g1]
    have hfb : folB 3 b = false := by unfold folB; simp [g1]
    go_enter Tryd.func112, Tryd.ntmps112
    go_wp2_with (first | (go_at_call 120; refine (follows_any _ _ _).mono ?_; rintro e w' ⟨rfl, hk⟩; obtain ⟨cg, cs⟩ := box_kept hk; have c0 := cs 0 _ rfl; have c1 := cs 1 _ rfl; have d1 := cg 1 _ rfl; have d2 := cg 2 _ rfl; clear cg cs) | (go_at_call 108; refine (stop_any _ _).mono ?_; rintro e w' ⟨rfl, rfl⟩))
    all_goals first
      | (go_ret; exact ⟨rfl, by first | ((repeat (first | exact Kept.refl _ _ | refine Kept.tr ?_ (Kept.alloc _ _ _ _ _))); done) | (refine Kept.tr ?_ hk; repeat (first | exact Kept.refl _ _ | refine Kept.tr ?_ (Kept.alloc _ _ _ _ _)))⟩; done)
      | (exfalso; simp_all; done)
      | (exfalso; simp_all; omega)
  rw [if_neg h3]
  have h3b : (a == 3) = false := by simp [h3]
  have hfb : folB a b = false := by unfold folB; simp [h1, h2, h3]
  by_cases g : b = a
  · subst g
    go_enter Tryd.func112, Tryd.ntmps112
    go_wp2_with (first | (go_at_call 120; refine (follows_any _ _ _).mono ?_; rintro e w' ⟨rfl, hk⟩; obtain ⟨cg, cs⟩ := box_kept hk; have c0 := cs 0 _ rfl; have c1 := cs 1 _ rfl; have d1 := cg 1 _ rfl; have d2 := cg 2 _ rfl; clear cg cs) | (go_at_call 108; refine (stop_any _ _).mono ?_; rintro e w' ⟨rfl, rfl⟩))
    all_goals first
      | (go_ret; exact ⟨rfl, by first | ((repeat (first | exact Kept.refl _ _ | refine Kept.tr ?_ (Kept.alloc _ _ _ _ _))); done) | (refine Kept.tr ?_ hk; repeat (first | exact Kept.refl _ _ | refine Kept.tr ?_ (Kept.alloc _ _ _ _ _)))⟩; done)
      | (exfalso; simp_all; done)
      | (exfalso; simp_all; omega)
  · have gb : (b == a) = false := by simp [g]
    go_enter Tryd.func112, Tryd.ntmps112
    go_wp2_with (first | (go_at_call 120; refine (follows_any _ _ _).mono ?_; rintro e w' ⟨rfl, hk⟩; obtain ⟨cg, cs⟩ := box_kept hk; have c0 := cs 0 _ rfl; have c1 := cs 1 _ rfl; have d1 := cg 1 _ rfl; have d2 := cg 2 _ rfl; clear cg cs) | (go_at_call 108; refine (stop_any _ _).mono ?_; rintro e w' ⟨rfl, rfl⟩))
    all_goals first
      | (go_ret; exact ⟨rfl, by first | ((repeat (first | exact Kept.refl _ _ | refine Kept.tr ?_ (Kept.alloc _ _ _ _ _))); done) | (refine Kept.tr ?_ hk; repeat (first | exact Kept.refl _ _ | refine Kept.tr ?_ (Kept.alloc _ _ _ _ _)))⟩; done)
      | (exfalso; simp_all; done)
      | (exfalso; simp_all; omega)

end Go.Proofs.YtfhmfanmnhclfaaDoor
