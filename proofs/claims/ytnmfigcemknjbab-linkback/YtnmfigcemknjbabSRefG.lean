/-
  Of the text RefG: what this stage needs (culled by a program).
-/
import Derived.Test.YtnmfigcemknjbabWorld
import Derived.Test.YtnmfigcemknjbabSCond3
namespace Go.Proofs.Ytnmfigcemknjbab
open Go.RowKit Go.Lib Go.Deep
set_option linter.unusedVariables false
set_option linter.unusedSimpArgs false

/-- No list of it is long. -/
structure Few (S : St) : Prop where
  g : S.groups.length ≤ 40
  a : S.apart.length ≤ 40
  b : S.between.length ≤ 40
  p : S.phases.length ≤ 40
  e : S.eyes.length ≤ 60
  l : S.plans.length ≤ 40
  br : ∀ i, i < S.between.length → (S.between.getD i []).length ≤ 40
  lr : ∀ i, i < S.plans.length → (S.plans.getD i q0).splits.length ≤ 40
def GreatP (S : St) (w : World) (e : Ending) (w' : World) : Prop := ∃ g, e = .returned (.bool g) ∧ (g = false → Few S) ∧ Kept w w' none
theorem GreatP.of {S : St} {w w' : World} (g : Bool) (h : g = false → Few S) (k : Kept w w' none) : GreatP S w (.returned (.bool g)) w' := ⟨g, rfl, h, k⟩
end Go.Proofs.Ytnmfigcemknjbab
