/-
  Of the text Cond3: what this stage needs (culled by a program).
-/
import Derived.Test.YtnmfigcemknjbaaSCond
namespace Go.Proofs.Ytnmfigcemknjbaa
open Go.RowKit Go.Lib Go.Deep
set_option linter.unusedVariables false
set_option linter.unusedSimpArgs false

theorem within_is (n lo hi : Int) (b : Bool) (w : World) (h : inB n lo hi = b) : Calls Try.prog 66 #[.int .i64 n, .int .i64 lo, .int .i64 hi] w fun e w' => e = .returned (.bool b) ∧ w' = w := by
  rw [← h]; exact within_any n lo hi w
theorem time_is (n : Int) (b : Bool) (w : World) (h : timeB n = b) : Calls Try.prog 65 #[.int .i64 n] w fun e w' => e = .returned (.bool b) ∧ w' = w := by
  rw [← h]; exact time_any n w
end Go.Proofs.Ytnmfigcemknjbaa
