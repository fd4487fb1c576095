/-
  THE CONTRACTS of the document's own answers for package fix (stoplineref01): the same numbers as package fix's.
-/
import Derived.Test.YtkdfiaeghbkgnaaFixC
namespace Go.Proofs.Ytkdfiaeghbkgnaa
open Go.RowKit Go.Lib
set_option linter.unusedVariables false

theorem hid {p : Prop} (h : p) : Hid p := h

theorem rstop_any (x : Int) (w : World) : Calls Try.prog 24 #[.int .i64 x] w fun e w' => e = .returned (.int .i64 (stF x)) ∧ w' = w := by
  by_cases h1 : 70368744177664 < x
  · rw [stF_hi h1]
    go_enter Try.func24, Try.ntmps24
    go_wp2
    go_ret
    exact ⟨rfl, rfl⟩
  · by_cases h2 : x < -70368744177664
    · rw [stF_lo h2]
      go_enter Try.func24, Try.ntmps24
      go_wp2
      go_ret
      exact ⟨rfl, rfl⟩
    · rw [stF_id (by omega) (by omega)]
      go_enter Try.func24, Try.ntmps24
      go_wp2
      go_ret
      exact ⟨rfl, rfl⟩
theorem rdown_any (a b : Int) (w : World) (h0 : -9223372036854775808 < a) (h1 : a ≤ 9223372036854775807) (hb : 0 < b) :
    Calls Try.prog 25 #[.int .i64 a, .int .i64 b] w fun e w' => e = .returned (.int .i64 (a / b)) ∧ w' = w := by
  have t0 := wrap_tdiv (b := b) h0 h1
  have t1 := wrap_tdiv1 (b := b) h0 h1
  by_cases ha : a < 0
  · by_cases hm : a.tmod b = 0
    · have e1 : Hid (a.tdiv b = a / b) := by rw [q_zero (by omega) hm, q_pp (by omega)]; exact rfl
      go_enter Try.func25, Try.ntmps25
      go_wp2
      go_ret
      exact ⟨ret_int e1.out, rfl⟩
    · have e1 : Hid (wrap64 (a.tdiv b - 1) = a / b) := by rw [t1, q_np (by omega) ha (by omega) hm, q_pp (by omega)]; exact rfl
      go_enter Try.func25, Try.ntmps25
      go_wp2
      go_ret
      exact ⟨ret_int e1.out, rfl⟩
  · have ha2 : 0 ≤ a := by omega
    go_enter Try.func25, Try.ntmps25
    go_wp2
    all_goals
      go_ret
      exact ⟨rfl, rfl⟩
theorem neg_qdn (x y : Int) (h : y < 0) : (-x * 65536) / (-y) = qdn (x * 65536) y := by unfold qdn; rw [if_pos h, Int.neg_mul]
theorem pos_qdn (x y : Int) (h : 0 ≤ y) : (x * 65536) / y = qdn (x * 65536) y := q_pp h
theorem rdiv_any (a b : Int) (w : World) (hb : b ≠ 0) : Calls Try.prog 18 #[.int .i64 a, .int .i64 b] w fun e w' => e = .returned (.tuple #[.int .i64 (fDiv a b), .int .i64 0]) ∧ w' = w := by
  have a0 := stF_ge a; have a1 := stF_le a; have b0 := stF_ge b; have b1 := stF_le b
  have hz := stF_ne hb
  have hz' : (stF b == 0) = false := by simpa using hz
  by_cases sb : stF b < 0
  · go_enter Try.func18, Try.ntmps18
    go_wp2_with (first
      | (go_at_call 24; refine (rstop_any _ _).mono ?_; rintro e w' ⟨rfl, rfl⟩)
      | (go_at_call 25; refine (rdown_any _ _ _ (by omega) (by omega) (by omega)).mono ?_; rintro e w' ⟨rfl, rfl⟩))
    go_ret2
    exact ⟨ret_int2 (by unfold fDiv; rw [← neg_qdn _ _ sb, Int.ediv_neg]) rfl, rfl⟩
  · go_enter Try.func18, Try.ntmps18
    go_wp2_with (first
      | (go_at_call 24; refine (rstop_any _ _).mono ?_; rintro e w' ⟨rfl, rfl⟩)
      | (go_at_call 25; refine (rdown_any _ _ _ (by omega) (by omega) (by omega)).mono ?_; rintro e w' ⟨rfl, rfl⟩))
    go_ret2
    exact ⟨ret_int2 (by unfold fDiv; rw [← pos_qdn _ _ ‹_›]) rfl, rfl⟩
theorem rdiv_zero (a : Int) (w : World) : Calls Try.prog 18 #[.int .i64 a, .int .i64 0] w fun e w' => e = .returned (.tuple #[.int .i64 0, .int .i64 10]) ∧ w' = w := by
  have hz := stF_zero
  go_enter Try.func18, Try.ntmps18
  go_wp2_with (go_at_call 24; refine (rstop_any _ _).mono ?_; rintro e w' ⟨rfl, rfl⟩)
  go_ret2
  exact ⟨rfl, rfl⟩
theorem rof_any (n : Int) (w : World) : Calls Try.prog 19 #[.int .i64 n] w fun e w' => e = .returned (.int .i64 (fOf n)) ∧ w' = w := by
  by_cases h1 : 1073741824 < n
  · rw [of_hi h1]
    go_enter Try.func19, Try.ntmps19
    go_wp2
    go_ret
    exact ⟨rfl, rfl⟩
  · by_cases h2 : n < -1073741824
    · rw [of_lo h2]
      go_enter Try.func19, Try.ntmps19
      go_wp2
      go_ret
      exact ⟨rfl, rfl⟩
    · rw [of_id (by omega) (by omega)]
      go_enter Try.func19, Try.ntmps19
      go_wp2
      go_ret
      exact ⟨rfl, rfl⟩
end Go.Proofs.Ytkdfiaeghbkgnaa
