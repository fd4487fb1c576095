/-
  NARROWER THAN 'FOR EVERY INPUT', by the rows' own cells (each row's printed sentence says how): NetNames: laid · NetMay: laid · NetBack: laid · NetParts: laid · NetCycles: laid.
  DERIVED. THE GIVEN ROWS OF THIS SEAT. 5 by the template 'for every input the law returns true; each argument reads behind the call as it read before'; 0 by the template 'total and deterministic' (their statements: YtoahbpdgbiachaaDoorTotals.lean).
  GIVEN WITH THE SEED: the statements are not yours to turn. If you find one false, say at which input.
  Laid BY PROGRAM, IN A SANDBOX (cutbox-rows.mjs): the forced cells as the released guide's own fill.sh prints them over the translation a677f96977ebeee0… (all of the seat's roots in one cut). By AI agents, Wed Nov 11 2026. No macro, syntax, notation, axiom, sorry.
-/
import Derived.Test.YtoahbpdgbiachaaDoorChecked
import GoSem.Claim
import GoSem.ClaimJoined
import GoSem.ClaimMapViews
import Derived.JoinedTies
import Derived.KernelRfl
namespace Go.Proofs.YtoahbpdgbiachaaDoor
/- THE CELL 'sum', in the pinned program and in every row, IS THE sha256 OF THE DUMP (.gsa) THAT YtoahbpdgbiachaaDoorProg.lean LOADS. Nothing in Lean hashes anything: it is a label: what it is worth is what the hold of that sum in a sandbox is worth. -/
noncomputable def Tryd.pinned : Pinned := { name := "ytoahbpdgbiachaadoor", sum := "a677f96977ebeee0285fb99c02a074d82cdae4f4527542a6b49dfdca9b383617", checked := Tryd.checked }
namespace Rows
def none {H : Type} : Left H := { results := [], args := [] }

/- WHAT THE LISTED PACKAGE-LEVEL VARIABLES READ AS WHEN THE CALL BEGINS. Each datum BY PROGRAM (the guide's laid-datum.mjs) off the statement by which the dump's own 'gosem.cut.vars' lays the variable. In a bare row this is a premise. The card (YtoahbpdgbiachaaDoorCards.lean) ties it to the program's text. -/
def laid_math_bits_deBruijn32tab {H : Type} : DataW H := .agg [.lit (.int .u8 0), .lit (.int .u8 1), .lit (.int .u8 28), .lit (.int .u8 2), .lit (.int .u8 29), .lit (.int .u8 14), .lit (.int .u8 24), .lit (.int .u8 3), .lit (.int .u8 30), .lit (.int .u8 22), .lit (.int .u8 20), .lit (.int .u8 15), .lit (.int .u8 25), .lit (.int .u8 17), .lit (.int .u8 4), .lit (.int .u8 8), .lit (.int .u8 31), .lit (.int .u8 27), .lit (.int .u8 13), .lit (.int .u8 23), .lit (.int .u8 21), .lit (.int .u8 19), .lit (.int .u8 16), .lit (.int .u8 7), .lit (.int .u8 26), .lit (.int .u8 12), .lit (.int .u8 18), .lit (.int .u8 6), .lit (.int .u8 11), .lit (.int .u8 5), .lit (.int .u8 10), .lit (.int .u8 9)]
def laid_stopline_raw_halfSums {H : Type} : DataW H := .agg [.lit (.int .u32 0), .lit (.int .u32 498536548), .lit (.int .u32 997073096), .lit (.int .u32 651767980), .lit (.int .u32 1994146192), .lit (.int .u32 1802195444), .lit (.int .u32 1303535960), .lit (.int .u32 1342533948), .lit (.int .u32 3988292384), .lit (.int .u32 4027552580), .lit (.int .u32 3604390888), .lit (.int .u32 3412177804), .lit (.int .u32 2607071920), .lit (.int .u32 2262029012), .lit (.int .u32 2685067896), .lit (.int .u32 3183342108)]

/-- 'stoplinelaw06.NetNames': WHATEVER THE INPUT: true; the input reads as it did. -/
def netNamesSpec : ChangeSpec := { name := "netNames", fn := fun _ => fun
  | [] => { results := [.lit (.bool true)], args := [] }
  | _ => none }
def netNamesRow : OpenClaim := { program := "ytoahbpdgbiachaadoor", sum := "a677f96977ebeee0285fb99c02a074d82cdae4f4527542a6b49dfdca9b383617", func := "stopline/stoplinelaw06.NetNames", spec := "netNames", unfollowed := true, recurses := true, named := ["math/bits.deBruijn32tab", "stopline/raw.halfSums"], plainKeys := false, apart := false, laid := [("math/bits.deBruijn32tab", laid_math_bits_deBruijn32tab), ("stopline/raw.halfSums", laid_stopline_raw_halfSums)] }
def NetNamesSaid : Prop := netNamesRow.holds Tryd.pinned (OpenSpec.ofChange netNamesSpec)

/-- ITS FALSE NEIGHBOUR: 'it returns false'. Refute it at one input. -/
def netNamesWrong : ChangeSpec := { name := "netNames", fn := fun _ => fun
  | [] => { results := [.lit (.bool false)], args := [] }
  | _ => none }
def NetNamesWrongFalsely : Prop := netNamesRow.holds Tryd.pinned (OpenSpec.ofChange netNamesWrong)

/-- 'stoplinelaw06.NetMay': WHATEVER THE INPUT: true; the input reads as it did. -/
def netMaySpec : ChangeSpec := { name := "netMay", fn := fun _ => fun
  | [d1, d2] => { results := [.lit (.bool true)], args := [d1, d2] }
  | _ => none }
def netMayRow : OpenClaim := { program := "ytoahbpdgbiachaadoor", sum := "a677f96977ebeee0285fb99c02a074d82cdae4f4527542a6b49dfdca9b383617", func := "stopline/stoplinelaw06.NetMay", spec := "netMay", unfollowed := true, recurses := true, named := ["math/bits.deBruijn32tab"], plainKeys := false, apart := false, laid := [("math/bits.deBruijn32tab", laid_math_bits_deBruijn32tab)] }
def NetMaySaid : Prop := netMayRow.holds Tryd.pinned (OpenSpec.ofChange netMaySpec)

/-- ITS FALSE NEIGHBOUR: 'it returns false'. Refute it at one input. -/
def netMayWrong : ChangeSpec := { name := "netMay", fn := fun _ => fun
  | [d1, d2] => { results := [.lit (.bool false)], args := [d1, d2] }
  | _ => none }
def NetMayWrongFalsely : Prop := netMayRow.holds Tryd.pinned (OpenSpec.ofChange netMayWrong)

/-- 'stoplinelaw06.NetBack': WHATEVER THE INPUT: true; the input reads as it did. -/
def netBackSpec : ChangeSpec := { name := "netBack", fn := fun _ => fun
  | [d1, d2] => { results := [.lit (.bool true)], args := [d1, d2] }
  | _ => none }
def netBackRow : OpenClaim := { program := "ytoahbpdgbiachaadoor", sum := "a677f96977ebeee0285fb99c02a074d82cdae4f4527542a6b49dfdca9b383617", func := "stopline/stoplinelaw06.NetBack", spec := "netBack", unfollowed := true, recurses := true, named := ["math/bits.deBruijn32tab", "stopline/raw.halfSums"], plainKeys := false, apart := false, laid := [("math/bits.deBruijn32tab", laid_math_bits_deBruijn32tab), ("stopline/raw.halfSums", laid_stopline_raw_halfSums)] }
def NetBackSaid : Prop := netBackRow.holds Tryd.pinned (OpenSpec.ofChange netBackSpec)

/-- ITS FALSE NEIGHBOUR: 'it returns false'. Refute it at one input. -/
def netBackWrong : ChangeSpec := { name := "netBack", fn := fun _ => fun
  | [d1, d2] => { results := [.lit (.bool false)], args := [d1, d2] }
  | _ => none }
def NetBackWrongFalsely : Prop := netBackRow.holds Tryd.pinned (OpenSpec.ofChange netBackWrong)

/-- 'stoplinelaw06.NetParts': WHATEVER THE INPUT: true; the input reads as it did. -/
def netPartsSpec : ChangeSpec := { name := "netParts", fn := fun _ => fun
  | [d] => { results := [.lit (.bool true)], args := [d] }
  | _ => none }
def netPartsRow : OpenClaim := { program := "ytoahbpdgbiachaadoor", sum := "a677f96977ebeee0285fb99c02a074d82cdae4f4527542a6b49dfdca9b383617", func := "stopline/stoplinelaw06.NetParts", spec := "netParts", unfollowed := true, recurses := true, named := ["math/bits.deBruijn32tab", "stopline/raw.halfSums"], plainKeys := false, apart := false, laid := [("math/bits.deBruijn32tab", laid_math_bits_deBruijn32tab), ("stopline/raw.halfSums", laid_stopline_raw_halfSums)] }
def NetPartsSaid : Prop := netPartsRow.holds Tryd.pinned (OpenSpec.ofChange netPartsSpec)

/-- ITS FALSE NEIGHBOUR: 'it returns false'. Refute it at one input. -/
def netPartsWrong : ChangeSpec := { name := "netParts", fn := fun _ => fun
  | [d] => { results := [.lit (.bool false)], args := [d] }
  | _ => none }
def NetPartsWrongFalsely : Prop := netPartsRow.holds Tryd.pinned (OpenSpec.ofChange netPartsWrong)

/-- 'stoplinelaw06.NetCycles': WHATEVER THE INPUT: true; the input reads as it did. -/
def netCyclesSpec : ChangeSpec := { name := "netCycles", fn := fun _ => fun
  | [d] => { results := [.lit (.bool true)], args := [d] }
  | _ => none }
def netCyclesRow : OpenClaim := { program := "ytoahbpdgbiachaadoor", sum := "a677f96977ebeee0285fb99c02a074d82cdae4f4527542a6b49dfdca9b383617", func := "stopline/stoplinelaw06.NetCycles", spec := "netCycles", unfollowed := true, recurses := true, named := ["math/bits.deBruijn32tab", "stopline/raw.halfSums"], plainKeys := false, apart := false, laid := [("math/bits.deBruijn32tab", laid_math_bits_deBruijn32tab), ("stopline/raw.halfSums", laid_stopline_raw_halfSums)] }
def NetCyclesSaid : Prop := netCyclesRow.holds Tryd.pinned (OpenSpec.ofChange netCyclesSpec)

/-- ITS FALSE NEIGHBOUR: 'it returns false'. Refute it at one input. -/
def netCyclesWrong : ChangeSpec := { name := "netCycles", fn := fun _ => fun
  | [d] => { results := [.lit (.bool false)], args := [d] }
  | _ => none }
def NetCyclesWrongFalsely : Prop := netCyclesRow.holds Tryd.pinned (OpenSpec.ofChange netCyclesWrong)

/- THE SECOND FORM. 'bulk': how many values and letters a reading holds, each counted each time it is reached (what is shared counts as often as it is met; a slice's spare places count too). A statement '..UptoSaid' is the law's where the arguments, and the package variables that the reading takes, are together of bulk at most 1048576: NARROWER than '..Said'. Prove '..Said' where nothing that the law and all that it calls make is longer than what came in: it says more and counts as full. Else prove '..UptoSaid'. A law counts once. -/
mutual
def uptoBulk {H : Type} : DataW H → Nat
  | .lit (.string bytes) => bytes.length + 1
  | .lit _ => 1
  | .nil => 1
  | .ptr d => uptoBulk d + 1
  | .slice elems spare => uptoBulkAll elems + uptoBulkAll spare + 1
  | .agg parts => uptoBulkAll parts + 1
  | .iface _ d => uptoBulk d + 1
  | .map entries => uptoBulkEntries entries + 1
  | .held _ => 1
def uptoBulkAll {H : Type} : List (DataW H) → Nat
  | [] => 0
  | d :: r => uptoBulk d + uptoBulkAll r
def uptoBulkEntries {H : Type} : List (Lit × DataW H) → Nat
  | [] => 0
  | x :: r => uptoBulkEntry x + uptoBulkEntries r
def uptoBulkEntry {H : Type} : Lit × DataW H → Nat
  | (.string bytes, d) => bytes.length + uptoBulk d + 1
  | (_, d) => uptoBulk d + 1
 end
def uptoSmall : (H : Type) → List (DataW H) → Bool := fun _ ds => decide (uptoBulkAll ds ≤ 1048576)
def OpenSpec.upto (s : _root_.Go.ChangeSpec) : _root_.Go.OpenSpec := { _root_.Go.OpenSpec.ofChange s with cond := some uptoSmall }

/-- 'stoplinelaw06.NetNames', WHERE WHAT IT READS IS OF BULK AT MOST 1048576: true; the input reads as it did. -/
def netNamesUptoRow : OpenClaim := { program := "ytoahbpdgbiachaadoor", sum := "a677f96977ebeee0285fb99c02a074d82cdae4f4527542a6b49dfdca9b383617", func := "stopline/stoplinelaw06.NetNames", spec := "netNames", unfollowed := true, recurses := true, named := ["math/bits.deBruijn32tab", "stopline/raw.halfSums"], plainKeys := false, apart := false, laid := [("math/bits.deBruijn32tab", laid_math_bits_deBruijn32tab), ("stopline/raw.halfSums", laid_stopline_raw_halfSums)], narrowed := true }
def NetNamesUptoSaid : Prop := netNamesUptoRow.holds Tryd.pinned (OpenSpec.upto netNamesSpec)

/-- 'stoplinelaw06.NetMay', WHERE WHAT IT READS IS OF BULK AT MOST 1048576: true; the input reads as it did. -/
def netMayUptoRow : OpenClaim := { program := "ytoahbpdgbiachaadoor", sum := "a677f96977ebeee0285fb99c02a074d82cdae4f4527542a6b49dfdca9b383617", func := "stopline/stoplinelaw06.NetMay", spec := "netMay", unfollowed := true, recurses := true, named := ["math/bits.deBruijn32tab"], plainKeys := false, apart := false, laid := [("math/bits.deBruijn32tab", laid_math_bits_deBruijn32tab)], narrowed := true }
def NetMayUptoSaid : Prop := netMayUptoRow.holds Tryd.pinned (OpenSpec.upto netMaySpec)

/-- 'stoplinelaw06.NetBack', WHERE WHAT IT READS IS OF BULK AT MOST 1048576: true; the input reads as it did. -/
def netBackUptoRow : OpenClaim := { program := "ytoahbpdgbiachaadoor", sum := "a677f96977ebeee0285fb99c02a074d82cdae4f4527542a6b49dfdca9b383617", func := "stopline/stoplinelaw06.NetBack", spec := "netBack", unfollowed := true, recurses := true, named := ["math/bits.deBruijn32tab", "stopline/raw.halfSums"], plainKeys := false, apart := false, laid := [("math/bits.deBruijn32tab", laid_math_bits_deBruijn32tab), ("stopline/raw.halfSums", laid_stopline_raw_halfSums)], narrowed := true }
def NetBackUptoSaid : Prop := netBackUptoRow.holds Tryd.pinned (OpenSpec.upto netBackSpec)

/-- 'stoplinelaw06.NetParts', WHERE WHAT IT READS IS OF BULK AT MOST 1048576: true; the input reads as it did. -/
def netPartsUptoRow : OpenClaim := { program := "ytoahbpdgbiachaadoor", sum := "a677f96977ebeee0285fb99c02a074d82cdae4f4527542a6b49dfdca9b383617", func := "stopline/stoplinelaw06.NetParts", spec := "netParts", unfollowed := true, recurses := true, named := ["math/bits.deBruijn32tab", "stopline/raw.halfSums"], plainKeys := false, apart := false, laid := [("math/bits.deBruijn32tab", laid_math_bits_deBruijn32tab), ("stopline/raw.halfSums", laid_stopline_raw_halfSums)], narrowed := true }
def NetPartsUptoSaid : Prop := netPartsUptoRow.holds Tryd.pinned (OpenSpec.upto netPartsSpec)

/-- 'stoplinelaw06.NetCycles', WHERE WHAT IT READS IS OF BULK AT MOST 1048576: true; the input reads as it did. -/
def netCyclesUptoRow : OpenClaim := { program := "ytoahbpdgbiachaadoor", sum := "a677f96977ebeee0285fb99c02a074d82cdae4f4527542a6b49dfdca9b383617", func := "stopline/stoplinelaw06.NetCycles", spec := "netCycles", unfollowed := true, recurses := true, named := ["math/bits.deBruijn32tab", "stopline/raw.halfSums"], plainKeys := false, apart := false, laid := [("math/bits.deBruijn32tab", laid_math_bits_deBruijn32tab), ("stopline/raw.halfSums", laid_stopline_raw_halfSums)], narrowed := true }
def NetCyclesUptoSaid : Prop := netCyclesUptoRow.holds Tryd.pinned (OpenSpec.upto netCyclesSpec)

end Rows
end Go.Proofs.YtoahbpdgbiachaaDoor
