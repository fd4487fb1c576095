/-
  THE CONTRACT of eye.later (made by a program).
-/
import Derived.Test.YtjfajdmifjbblaaDoorEyeC
namespace Go.Proofs.YtjfajdmifjbblaaDoor
open Go.RowKit Go.Lib Go.Deep
set_option linter.unusedVariables false
set_option linter.unusedSimpArgs false

theorem drew_cell (w : World) (a : Addr) : w.drew.cell? a = w.cell? a := rfl
theorem b5_at {w : World} {v0 v1 v2 v3 v4 : Value} {t : TypeId} {n : Nat} (h : w.heap.size = n) : B5 (w.alloc (.cells #[v0, v1, v2, v3, v4] t)) n v0 v1 v2 v3 v4 := by
  subst h
  exact b5_alloc w _ _ _ _ _ t
end Go.Proofs.YtjfajdmifjbblaaDoor
