/-
  Texts joined: some of those that the proofs of this seat stand on.
-/
import Derived.Test.YtcjkghajeohfjaaDoorBits
import Derived.Test.YtcjkghajeohfjaaDoorCrcJ
import Derived.ProofKit
import Derived.LaidMore
import Derived.LaidSub
import Derived.OpenShut
import Derived.Stop.Joined
/-
  FROM THE ROWS' CONDITION (the listed tables are as the program's text lays them) TO WHAT THE WALKS ASK; the witness's world.
-/
namespace Go.Proofs.YtcjkghajeohfjaaDoor
open Go.RowKit Go.Lib Go.Deep
set_option linter.unusedVariables false
set_option linter.unusedSimpArgs false

abbrev laid1 : List (String × DataW Unit) := [("math/bits.deBruijn32tab", Rows.laid_math_bits_deBruijn32tab)]
abbrev laid2 : List (String × DataW Unit) := [("math/bits.deBruijn32tab", Rows.laid_math_bits_deBruijn32tab), ("stopline/raw.halfSums", Rows.laid_stopline_raw_halfSums)]
theorem gTabb : Tryd.prog.globalNamed "math/bits.deBruijn32tab" = some 1 := by kernel_rfl
theorem tTabb : (Tryd.prog.globals[1]?).map (·.type) = some 142 := by kernel_rfl
theorem uTabb : Tryd.prog.underlying 142 = some (.array 32 5) := by kernel_rfl
theorem uByte : Tryd.prog.underlying 5 = some (.int .u8) := by kernel_rfl
theorem cByte : Tryd.prog.cellsOf 5 = 1 := by kernel_rfl
theorem cTabb : Tryd.prog.cellsOf 142 = 32 := by kernel_rfl
theorem gTab : Tryd.prog.globalNamed "stopline/raw.halfSums" = some 0 := by kernel_rfl
theorem tTab : (Tryd.prog.globals[0]?).map (·.type) = some 135 := by kernel_rfl
theorem uTab : Tryd.prog.underlying 135 = some (.array 16 78) := by kernel_rfl
theorem uWord : Tryd.prog.underlying 78 = some (.int .u32) := by kernel_rfl
theorem cWord : Tryd.prog.cellsOf 78 = 1 := by kernel_rfl
theorem cTab : Tryd.prog.cellsOf 135 = 16 := by kernel_rfl
theorem of_laid1 {W : World} (h : laidMetH Tryd.prog laid1 W) : Tabb W := by
  rw [MakeChecks.laidMetH_plain _ _ _ (by kernel_rfl)] at h
  have h' : laidMet Tryd.prog (("math/bits.deBruijn32tab", tabData .u8 deB) :: []) W := h
  have hT := tabIs_of_head gTabb tTabb uTabb uByte cByte cTabb h'
  exact fun i hi => hT.cell gTabb i hi
theorem of_laid2 {W : World} (h : laidMetH Tryd.prog laid2 W) : Tabb W ∧ Table W := by
  rw [MakeChecks.laidMetH_plain _ _ _ (by kernel_rfl)] at h
  have h1 : laidMet Tryd.prog (("math/bits.deBruijn32tab", tabData .u8 deB) :: []) W := h.filter (fun x => x.1 == "math/bits.deBruijn32tab")
  have h2 : laidMet Tryd.prog (("stopline/raw.halfSums", tabData .u32 halfs) :: []) W := h.filter (fun x => x.1 == "stopline/raw.halfSums")
  have hT := tabIs_of_head gTabb tTabb uTabb uByte cByte cTabb h1
  have hT2 := tabIs_of_head gTab tTab uTab uWord cWord cTab h2
  exact ⟨fun i hi => hT.cell gTabb i hi, fun i hi => hT2.cell gTab i hi⟩
theorem door_laid1 (os : Os) (args : Array Value) : laidMetH Tryd.prog laid1 ((World.doorLaid Tryd.prog 400 os).forCall (fun _ _ => 0) ⟨#[], args, []⟩).memory :=
  laidMetH_of_parts3 (fuel := 8) (laidMet_of_run' 8 (by kernel_rfl) (by kernel_rfl)) (by kernel_rfl) (by kernel_rfl)
theorem door_laid2 (os : Os) (args : Array Value) : laidMetH Tryd.prog laid2 ((World.doorLaid Tryd.prog 400 os).forCall (fun _ _ => 0) ⟨#[], args, []⟩).memory :=
  laidMetH_of_parts3 (fuel := 8) (laidMet_of_run' 8 (by kernel_rfl) (by kernel_rfl)) (by kernel_rfl) (by kernel_rfl)

end Go.Proofs.YtcjkghajeohfjaaDoor

