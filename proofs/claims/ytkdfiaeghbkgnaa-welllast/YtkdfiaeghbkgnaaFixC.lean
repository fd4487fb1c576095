/-
  THE CONTRACTS of package fix's own calls (Add, Sub, Mul, Div, Of, Round, Clamp, Mix): what each answers over integers; the world is as it was.
-/
import Derived.Test.YtkdfiaeghbkgnaaFixW
namespace Go.Proofs.Ytkdfiaeghbkgnaa
open Go.RowKit Go.Lib
set_option linter.unusedVariables false

theorem div_any (a b : Int) (w : World) (hb : b ≠ 0) : Calls Try.prog 15 #[.int .i64 a, .int .i64 b] w fun e w' => e = .returned (.tuple #[.int .i64 (fDiv a b), .int .i64 0]) ∧ w' = w := by
  have a0 := stF_ge a; have a1 := stF_le a
  have hz := stF_ne hb
  go_enter Try.func15, Try.ntmps15
  go_wp2_with (first
    | (go_at_call 20; refine (stop_any _ _).mono ?_; rintro e w' ⟨rfl, rfl⟩)
    | (go_at_call 21; refine (quotient_any _ _ _ (by omega) (by omega) hz).mono ?_; rintro e w' ⟨rfl, rfl⟩))
  go_ret2
  exact ⟨rfl, rfl⟩
theorem div_zero (a : Int) (w : World) : Calls Try.prog 15 #[.int .i64 a, .int .i64 0] w fun e w' => e = .returned (.tuple #[.int .i64 0, .int .i64 10]) ∧ w' = w := by
  go_enter Try.func15, Try.ntmps15
  go_wp2
  go_ret2
  exact ⟨rfl, rfl⟩
theorem div_all (a b : Int) (w : World) : Calls Try.prog 15 #[.int .i64 a, .int .i64 b] w fun e w' => e = .returned (.tuple #[.int .i64 (fDq a b), .int .i64 (fDe b)]) ∧ w' = w := by
  by_cases h : b = 0
  · subst h; exact div_zero a w
  · rw [show fDq a b = fDiv a b by unfold fDq; rw [if_neg h], show fDe b = 0 by unfold fDe; rw [if_neg h]]; exact div_any a b w h
theorem of_any (n : Int) (w : World) (h0 : -9223372036854775808 ≤ n) (h1 : n ≤ 9223372036854775807) : Calls Try.prog 16 #[.int .i64 n] w fun e w' => e = .returned (.int .i64 (fOf n)) ∧ w' = w := by
  go_enter Try.func16, Try.ntmps16
  go_wp2_with (first
    | (go_at_call 23; refine (product_any _ _ _ h0 h1 (by omega) (by omega)).mono ?_; rintro e w' ⟨rfl, rfl⟩)
    | (go_at_call 22; refine (stopWide_any _ _).mono ?_; rintro e w' ⟨rfl, rfl⟩))
  go_ret
  exact ⟨rfl, rfl⟩
theorem mix_way {n : Int} (h0 : -9223372036854775808 ≤ n) (h1 : n ≤ 9223372036854775808) : wrap64 (loW (n / 65536)) = n / 65536 := by
  unfold wrap64 loW; omega
end Go.Proofs.Ytkdfiaeghbkgnaa
