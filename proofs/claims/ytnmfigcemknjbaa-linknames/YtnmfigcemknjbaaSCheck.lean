/-
  Of the text Check: what this stage needs (culled by a program).
-/
import Derived.Test.YtnmfigcemknjbaaWorld
import Derived.Test.YtnmfigcemknjbaaSFits2
import Derived.WalkMore
import Derived.Laws.EntriesVeiled
import Derived.Deep.LoopGhost
namespace Go.Proofs.Ytnmfigcemknjbaa
open Go.RowKit Go.Lib Go.Deep
set_option linter.unusedVariables false
set_option linter.unusedSimpArgs false

def manyN (S : St) (o : Nat) : Nat := [1, S.groups.length, S.phases.length, S.eyes.length, S.plans.length].getD o 0
/-- How many parts there are. -/
structure Manys (w : World) (g : Nat) (S : St) : Prop where
  at_ : ∀ o, o < 5 → w.cell? ⟨g, o, none⟩ = some (.int .i64 (manyN S o : Int))
theorem Manys.kept {w w' : World} {g : Nat} {S : St} (h : Manys w g S) (q : Kept w w' none) : Manys w' g S := ⟨fun o ho => cell_kept0 (h.at_ o ho) q⟩
end Go.Proofs.Ytnmfigcemknjbaa
