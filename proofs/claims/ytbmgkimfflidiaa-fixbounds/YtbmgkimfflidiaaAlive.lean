/-
  THE CONTRACTS of the statements' own helpers: 'alive' answers true; 'within' tells whether a number lies within the bounds.
-/
import Derived.Test.YtbmgkimfflidiaaCalls
namespace Go.Proofs.Ytbmgkimfflidiaa
open Go.RowKit Go.Lib
set_option linter.unusedVariables false

theorem alive_any (w : World) : Calls Try.prog 14 #[] w fun e w' => e = .returned (.bool true) ∧ w' = w := by
  have e1 : fMul 98304 98304 = 147456 := by decide +kernel
  have e2 : fDiv 65536 196608 = 21845 := by decide +kernel
  go_enter Try.func14, Try.ntmps14
  go_wp2_with (first
    | (go_at_call 9; refine (div_any _ _ _ (by decide)).mono ?_; rintro e w' ⟨rfl, rfl⟩)
    | (go_at_call 10; refine (mul_any _ _ _).mono ?_; rintro e w' ⟨rfl, rfl⟩))
  go_ret
  exact ⟨rfl, rfl⟩
end Go.Proofs.Ytbmgkimfflidiaa
