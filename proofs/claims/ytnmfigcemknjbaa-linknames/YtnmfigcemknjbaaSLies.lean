/-
  Of the text Lies: what this stage needs (culled by a program).
-/
import Derived.Test.YtnmfigcemknjbaaSRnd
namespace Go.Proofs.Ytnmfigcemknjbaa
open Go.RowKit Go.Lib Go.Deep Go.Shelf
set_option linter.unusedVariables false
set_option linter.unusedSimpArgs false
attribute [local go_sem] Oper.semAt_some

/-- What is asked of a site's lists ahead of what lies between phases. -/
structure Shape (S : St) : Prop where
  ok : Okay S
  row : ∀ a, a < S.groups.length → (S.between.getD a []).length = S.groups.length
  ph : ∀ i, i < S.phases.length → (S.ph i).groups < 2 ^ S.groups.length
end Go.Proofs.Ytnmfigcemknjbaa
