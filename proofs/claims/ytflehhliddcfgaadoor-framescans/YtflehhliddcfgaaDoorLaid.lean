/-
  FROM THE ROWS' CONDITION (stopline/raw.halfSums is as the program's text lays it) TO WHAT THE WALKS ASK; the witness's world.
-/
import Derived.Test.YtflehhliddcfgaaDoorSum
import Derived.ProofKit
import Derived.LaidMore
import Derived.OpenShut
import Derived.Stop.Joined
namespace Go.Proofs.YtflehhliddcfgaaDoor
open Go.RowKit Go.Lib Go.Deep
set_option linter.unusedVariables false
set_option linter.unusedSimpArgs false

abbrev laid1 : List (String × DataW Unit) := [("stopline/raw.halfSums", Rows.laid_stopline_raw_halfSums)]
theorem gTab : Tryd.prog.globalNamed "stopline/raw.halfSums" = some 0 := by kernel_rfl
theorem tTab : (Tryd.prog.globals[0]?).map (·.type) = some 78 := by kernel_rfl
theorem uTab : Tryd.prog.underlying 78 = some (.array 16 28) := by kernel_rfl
theorem uWord : Tryd.prog.underlying 28 = some (.int .u32) := by kernel_rfl
theorem cWord : Tryd.prog.cellsOf 28 = 1 := by kernel_rfl
theorem cTab : Tryd.prog.cellsOf 78 = 16 := by kernel_rfl
theorem of_laid {W : World} (h : laidMetH Tryd.prog laid1 W) : Table W := by
  rw [MakeChecks.laidMetH_plain _ _ _ (by kernel_rfl)] at h
  have h' : laidMet Tryd.prog (("stopline/raw.halfSums", tabData .u32 halfs) :: []) W := h
  have hT := tabIs_of_head gTab tTab uTab uWord cWord cTab h'
  exact fun i hi => hT.cell gTab i hi
theorem door_met (os : Os) (args : Array Value) : laidMetH Tryd.prog laid1 ((World.doorLaid Tryd.prog 400 os).forCall (fun _ _ => 0) ⟨#[], args, []⟩).memory :=
  laidMetH_of_parts3 (fuel := 8) (laidMet_of_run' 8 (by kernel_rfl) (by kernel_rfl)) (by kernel_rfl) (by kernel_rfl)

end Go.Proofs.YtflehhliddcfgaaDoor
