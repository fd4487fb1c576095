/-
  Of the text RefG2: what this stage needs (culled by a program).
-/
import Derived.Test.YtnmfigcemknjbabWorld
import Derived.Test.YtnmfigcemknjbabSRefG
import Derived.Test.YtnmfigcemknjbabSFits
import Derived.Deep.RegionHeld3
namespace Go.Proofs.Ytnmfigcemknjbab
open Go.RowKit Go.Lib Go.Deep
set_option linter.unusedVariables false
set_option linter.unusedSimpArgs false

def Rg (A : Act) (W : World) (e : Exit) (a : Act) (w : World) : Prop := match e with
  | .normal => a = A ∧ Kept W w none
  | _ => False
theorem Rg.out {A : Act} {W w : World} {e : Exit} {a : Act} (h : Rg A W e a w) : e = .normal ∧ a = A ∧ Kept W w none := by
  cases e with
  | normal => exact ⟨rfl, h.1, h.2⟩
  | _ => exact h.elim
end Go.Proofs.Ytnmfigcemknjbab
