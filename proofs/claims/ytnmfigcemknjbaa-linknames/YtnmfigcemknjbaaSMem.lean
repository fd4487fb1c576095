/-
  Of the text Mem: what this stage needs (culled by a program).
-/
import Derived.Test.YtnmfigcemknjbaaSStM
import Derived.Test.YtnmfigcemknjbaaWorld
import Derived.Test.YtnmfigcemknjbaaSCond3
import Derived.RangeFuncNested
import Derived.RangeFuncBound
import Derived.RangeFuncCalls
import Derived.RangeFuncLeaves
import Derived.Shelf.Abstract
import Derived.Shelf.RegionOpen
import Derived.OwnWalkIn
import Derived.TacticsInMore
import Derived.LoopNIn
import Derived.LoopIn
import Derived.Laws.BitsAllLaws
import Derived.Below
namespace Go.Proofs.Ytnmfigcemknjbaa
open Go.RowKit Go.Lib Go.Deep Go.Shelf
set_option linter.unusedVariables false
set_option linter.unusedSimpArgs false
attribute [local go_sem] Oper.semAt_some

theorem Tabb.below {n : Nat} {w w' : World} (h : Tabb w) (hn : 0 < n) (k : Below n w w') : Tabb w' := fun i hi => (k.cell (p := ⟨0, i, none⟩) hn).trans (h i hi)
end Go.Proofs.Ytnmfigcemknjbaa
