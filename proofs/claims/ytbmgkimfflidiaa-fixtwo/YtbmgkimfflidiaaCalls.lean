/-
  THE CONTRACTS of package fix's own calls (Add, Sub, Mul, Div, Of, Round, Clamp, Mix): what each answers over integers; the world is as it was.
-/
import Derived.Test.YtbmgkimfflidiaaWalks
namespace Go.Proofs.Ytbmgkimfflidiaa
open Go.RowKit Go.Lib
set_option linter.unusedVariables false

theorem add_any (a b : Int) (w : World) : Calls Try.prog 11 #[.int .i64 a, .int .i64 b] w fun e w' => e = .returned (.int .i64 (fAdd a b)) ∧ w' = w := by
  have a0 := stp_ge a; have a1 := stp_le a; have b0 := stp_ge b; have b1 := stp_le b
  go_enter Try.func11, Try.ntmps11
  go_wp2_with (go_at_call 27; refine (stop_any _ _).mono ?_; rintro e w' ⟨rfl, rfl⟩)
  go_ret
  exact ⟨rfl, rfl⟩
theorem sub_any (a b : Int) (w : World) : Calls Try.prog 19 #[.int .i64 a, .int .i64 b] w fun e w' => e = .returned (.int .i64 (fSub a b)) ∧ w' = w := by
  have a0 := stp_ge a; have a1 := stp_le a; have b0 := stp_ge b; have b1 := stp_le b
  go_enter Try.func19, Try.ntmps19
  go_wp2_with (go_at_call 27; refine (stop_any _ _).mono ?_; rintro e w' ⟨rfl, rfl⟩)
  go_ret
  exact ⟨rfl, rfl⟩
theorem mul_any (a b : Int) (w : World) : Calls Try.prog 10 #[.int .i64 a, .int .i64 b] w fun e w' => e = .returned (.int .i64 (fMul a b)) ∧ w' = w := by
  have a0 := stp_ge a; have a1 := stp_le a; have b0 := stp_ge b; have b1 := stp_le b
  obtain ⟨m0, m1⟩ := mul_hi_bd a b
  go_enter Try.func10, Try.ntmps10
  go_wp2_with (first
    | (go_at_call 27; refine (stop_any _ _).mono ?_; rintro e w' ⟨rfl, rfl⟩)
    | (go_at_call 31; refine (product_any _ _ _ (by omega) (by omega) (by omega) (by omega)).mono ?_; rintro e w' ⟨rfl, rfl⟩)
    | (go_at_call 30; refine (perUnit_any _ _ m0 m1).mono ?_; rintro e w' ⟨rfl, rfl⟩)
    | (go_at_call 29; refine (stopWide_any _ _).mono ?_; rintro e w' ⟨rfl, rfl⟩))
  go_ret
  exact ⟨rfl, rfl⟩
theorem div_any (a b : Int) (w : World) (hb : b ≠ 0) : Calls Try.prog 9 #[.int .i64 a, .int .i64 b] w fun e w' => e = .returned (.tuple #[.int .i64 (fDiv a b), .int .i64 0]) ∧ w' = w := by
  have a0 := stp_ge a; have a1 := stp_le a
  have hz := stp_ne hb
  go_enter Try.func9, Try.ntmps9
  go_wp2_with (first
    | (go_at_call 27; refine (stop_any _ _).mono ?_; rintro e w' ⟨rfl, rfl⟩)
    | (go_at_call 28; refine (quotient_any _ _ _ (by omega) (by omega) hz).mono ?_; rintro e w' ⟨rfl, rfl⟩))
  go_ret2
  exact ⟨rfl, rfl⟩
theorem div_zero (a : Int) (w : World) : Calls Try.prog 9 #[.int .i64 a, .int .i64 0] w fun e w' => e = .returned (.tuple #[.int .i64 0, .int .i64 10]) ∧ w' = w := by
  go_enter Try.func9, Try.ntmps9
  go_wp2
  go_ret2
  exact ⟨rfl, rfl⟩
theorem div_all (a b : Int) (w : World) : Calls Try.prog 9 #[.int .i64 a, .int .i64 b] w fun e w' => e = .returned (.tuple #[.int .i64 (fDq a b), .int .i64 (fDe b)]) ∧ w' = w := by
  by_cases h : b = 0
  · subst h; exact div_zero a w
  · rw [show fDq a b = fDiv a b by unfold fDq; rw [if_neg h], show fDe b = 0 by unfold fDe; rw [if_neg h]]; exact div_any a b w h
theorem of_any (n : Int) (w : World) (h0 : -9223372036854775808 ≤ n) (h1 : n ≤ 9223372036854775807) : Calls Try.prog 12 #[.int .i64 n] w fun e w' => e = .returned (.int .i64 (fOf n)) ∧ w' = w := by
  go_enter Try.func12, Try.ntmps12
  go_wp2_with (first
    | (go_at_call 31; refine (product_any _ _ _ h0 h1 (by omega) (by omega)).mono ?_; rintro e w' ⟨rfl, rfl⟩)
    | (go_at_call 29; refine (stopWide_any _ _).mono ?_; rintro e w' ⟨rfl, rfl⟩))
  go_ret
  exact ⟨rfl, rfl⟩
theorem round_any (x : Int) (w : World) : Calls Try.prog 13 #[.int .i64 x] w fun e w' => e = .returned (.int .i64 (fRound x)) ∧ w' = w := by
  have a0 := stp_ge x; have a1 := stp_le x
  go_enter Try.func13, Try.ntmps13
  go_wp2_with (first
    | (go_at_call 27; refine (stop_any _ _).mono ?_; rintro e w' ⟨rfl, rfl⟩)
    | (go_at_call 28; refine (quotient_any _ _ _ (by omega) (by omega) (by omega)).mono ?_; rintro e w' ⟨rfl, rfl⟩))
  go_ret
  exact ⟨rfl, rfl⟩
theorem clamp_any (x l h : Int) (w : World) : Calls Try.prog 15 #[.int .i64 x, .int .i64 l, .int .i64 h] w fun e w' => e = .returned (.int .i64 (fClamp x l h)) ∧ w' = w := by
  by_cases h1 : x < l
  · rw [show fClamp x l h = l by unfold fClamp; rw [if_pos (by omega)]]
    go_enter Try.func15, Try.ntmps15
    go_wp2
    go_ret
    exact ⟨rfl, rfl⟩
  · by_cases h2 : h < l
    · rw [show fClamp x l h = l by unfold fClamp; rw [if_pos (by omega)]]
      go_enter Try.func15, Try.ntmps15
      go_wp2
      go_ret
      exact ⟨rfl, rfl⟩
    · by_cases h3 : h < x
      · rw [show fClamp x l h = h by unfold fClamp; rw [if_neg (by omega), if_pos h3]]
        go_enter Try.func15, Try.ntmps15
        go_wp2
        go_ret
        exact ⟨rfl, rfl⟩
      · rw [show fClamp x l h = x by unfold fClamp; rw [if_neg (by omega), if_neg h3]]
        go_enter Try.func15, Try.ntmps15
        go_wp2
        go_ret
        exact ⟨rfl, rfl⟩
theorem mix_way {n : Int} (h0 : -9223372036854775808 ≤ n) (h1 : n ≤ 9223372036854775808) : wrap64 (loW (n / 65536)) = n / 65536 := by
  unfold wrap64 loW; omega
theorem mix_any (o n p : Int) (w : World) : Calls Try.prog 16 #[.int .i64 o, .int .i64 n, .int .i64 p] w fun e w' => e = .returned (.int .i64 (fMix o n p)) ∧ w' = w := by
  have a0 := stp_ge o; have a1 := stp_le o; have b0 := stp_ge n; have b1 := stp_le n
  have c0 := clamp_ge p; have c1 := clamp_le p
  obtain ⟨m0, m1⟩ := mix_bd o n p
  have e1 := mix_way m0 m1
  have g0 : -9223372036854775808 ≤ hiW ((stp n - stp o) * fClamp p 0 65536) := by unfold hiW; omega
  have g1 : hiW ((stp n - stp o) * fClamp p 0 65536) ≤ 9223372036854775807 := by unfold hiW; omega
  go_enter Try.func16, Try.ntmps16
  go_wp2_with (first
    | (go_at_call 27; refine (stop_any _ _).mono ?_; rintro e w' ⟨rfl, rfl⟩)
    | (go_at_call 15; refine (clamp_any _ _ _ _).mono ?_; rintro e w' ⟨rfl, rfl⟩)
    | (go_at_call 31; refine (product_any _ _ _ (by omega) (by omega) (by omega) (by omega)).mono ?_; rintro e w' ⟨rfl, rfl⟩)
    | (go_at_call 30; refine (perUnit_any _ _ g0 g1).mono ?_; rintro e w' ⟨rfl, rfl⟩))
  go_ret
  exact ⟨rfl, rfl⟩
end Go.Proofs.Ytbmgkimfflidiaa
