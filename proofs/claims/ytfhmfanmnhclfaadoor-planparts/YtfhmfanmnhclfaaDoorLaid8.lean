/-
  FROM THE ROWS' CONDITION (the listed table is as the program's text lays it) TO WHAT THE WALKS ASK; the witness's world.
-/
import Derived.Test.YtfhmfanmnhclfaaDoorBits
import Derived.Test.YtfhmfanmnhclfaaDoorRows
import Derived.ProofKit
import Derived.LaidMore
import Derived.LaidSub
import Derived.OpenShut
import Derived.Stop.Joined
namespace Go.Proofs.YtfhmfanmnhclfaaDoor
open Go.RowKit Go.Lib Go.Deep
set_option linter.unusedVariables false
set_option linter.unusedSimpArgs false

abbrev laid1 : List (String × DataW Unit) := [("math/bits.deBruijn32tab", Rows.laid_math_bits_deBruijn32tab)]
theorem gTabb : Tryd.prog.globalNamed "math/bits.deBruijn32tab" = some 0 := by kernel_rfl
theorem tTabb : (Tryd.prog.globals[0]?).map (·.type) = some 145 := by kernel_rfl
theorem uTabb : Tryd.prog.underlying 145 = some (.array 32 5) := by kernel_rfl
theorem uByte : Tryd.prog.underlying 5 = some (.int .u8) := by kernel_rfl
theorem cByte : Tryd.prog.cellsOf 5 = 1 := by kernel_rfl
theorem cTabb : Tryd.prog.cellsOf 145 = 32 := by kernel_rfl
theorem of_laid1 {W : World} (h : laidMetH Tryd.prog laid1 W) : Tabb W := by
  rw [MakeChecks.laidMetH_plain _ _ _ (by kernel_rfl)] at h
  have h' : laidMet Tryd.prog (("math/bits.deBruijn32tab", tabData .u8 deB) :: []) W := h
  have hT := tabIs_of_head gTabb tTabb uTabb uByte cByte cTabb h'
  exact fun i hi => hT.cell gTabb i hi
theorem door_laid1 (os : Os) (args : Array Value) : laidMetH Tryd.prog laid1 ((World.doorLaid Tryd.prog 400 os).forCall (fun _ _ => 0) ⟨#[], args, []⟩).memory :=
  laidMetH_of_parts3 (fuel := 8) (laidMet_of_run' 8 (by kernel_rfl) (by kernel_rfl)) (by kernel_rfl) (by kernel_rfl)

end Go.Proofs.YtfhmfanmnhclfaaDoor
