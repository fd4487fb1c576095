/-
  NARROWER THAN 'FOR EVERY INPUT', by the rows' own cells (each row's printed sentence says how): SafeNames: laid · SafeSteps: laid · SafeTraces: laid · SafeMeans: laid · SafeBegins: laid.
  DERIVED. THE GIVEN ROWS OF THIS SEAT. 5 by the template 'for every input the law returns true; each argument reads behind the call as it read before'; 0 by the template 'total and deterministic' (their statements: YtpnmlgillphodaaDoorTotals.lean).
  GIVEN WITH THE SEED: the statements are not yours to turn. If you find one false, say at which input.
  Laid BY PROGRAM, IN A SANDBOX (cutbox-rows.mjs): the forced cells as the released guide's own fill.sh prints them over the translation fe3b489255844188… (all of the seat's roots in one cut). By AI agents, Wed Nov 11 2026. No macro, syntax, notation, axiom, sorry.
-/
import Derived.Test.YtpnmlgillphodaaDoorChecked
import GoSem.Claim
import GoSem.ClaimJoined
import GoSem.ClaimMapViews
import Derived.JoinedTies
import Derived.KernelRfl
namespace Go.Proofs.YtpnmlgillphodaaDoor
/- THE CELL 'sum', in the pinned program and in every row, IS THE sha256 OF THE DUMP (.gsa) THAT YtpnmlgillphodaaDoorProg.lean LOADS. Nothing in Lean hashes anything: it is a label: what it is worth is what the hold of that sum in a sandbox is worth. -/
noncomputable def Tryd.pinned : Pinned := { name := "ytpnmlgillphodaadoor", sum := "fe3b489255844188698a5f3fd7e35b01b304b51cd2ebf2f1520df52a4bee259f", checked := Tryd.checked }
namespace Rows
def none {H : Type} : Left H := { results := [], args := [] }

/- WHAT THE LISTED PACKAGE-LEVEL VARIABLES READ AS WHEN THE CALL BEGINS. Each datum BY PROGRAM (the guide's laid-datum.mjs) off the statement by which the dump's own 'gosem.cut.vars' lays the variable. In a bare row this is a premise. The card (YtpnmlgillphodaaDoorCards.lean) ties it to the program's text. -/
def laid_math_bits_deBruijn32tab {H : Type} : DataW H := .agg [.lit (.int .u8 0), .lit (.int .u8 1), .lit (.int .u8 28), .lit (.int .u8 2), .lit (.int .u8 29), .lit (.int .u8 14), .lit (.int .u8 24), .lit (.int .u8 3), .lit (.int .u8 30), .lit (.int .u8 22), .lit (.int .u8 20), .lit (.int .u8 15), .lit (.int .u8 25), .lit (.int .u8 17), .lit (.int .u8 4), .lit (.int .u8 8), .lit (.int .u8 31), .lit (.int .u8 27), .lit (.int .u8 13), .lit (.int .u8 23), .lit (.int .u8 21), .lit (.int .u8 19), .lit (.int .u8 16), .lit (.int .u8 7), .lit (.int .u8 26), .lit (.int .u8 12), .lit (.int .u8 18), .lit (.int .u8 6), .lit (.int .u8 11), .lit (.int .u8 5), .lit (.int .u8 10), .lit (.int .u8 9)]

/-- 'stoplinelaw08.SafeNames': WHATEVER THE INPUT: true; the input reads as it did. -/
def safeNamesSpec : ChangeSpec := { name := "safeNames", fn := fun _ => fun
  | [] => { results := [.lit (.bool true)], args := [] }
  | _ => none }
def safeNamesRow : OpenClaim := { program := "ytpnmlgillphodaadoor", sum := "fe3b489255844188698a5f3fd7e35b01b304b51cd2ebf2f1520df52a4bee259f", func := "stopline/stoplinelaw08.SafeNames", spec := "safeNames", unfollowed := true, recurses := true, named := ["math/bits.deBruijn32tab"], apart := false, laid := [("math/bits.deBruijn32tab", laid_math_bits_deBruijn32tab)] }
def SafeNamesSaid : Prop := safeNamesRow.holds Tryd.pinned (OpenSpec.ofChange safeNamesSpec)

/-- ITS FALSE NEIGHBOUR: 'it returns false'. Refute it at one input. -/
def safeNamesWrong : ChangeSpec := { name := "safeNames", fn := fun _ => fun
  | [] => { results := [.lit (.bool false)], args := [] }
  | _ => none }
def SafeNamesWrongFalsely : Prop := safeNamesRow.holds Tryd.pinned (OpenSpec.ofChange safeNamesWrong)

/-- 'stoplinelaw08.SafeSteps': WHATEVER THE INPUT: true; the input reads as it did. -/
def safeStepsSpec : ChangeSpec := { name := "safeSteps", fn := fun _ => fun
  | [d1, d2, d3] => { results := [.lit (.bool true)], args := [d1, d2, d3] }
  | _ => none }
def safeStepsRow : OpenClaim := { program := "ytpnmlgillphodaadoor", sum := "fe3b489255844188698a5f3fd7e35b01b304b51cd2ebf2f1520df52a4bee259f", func := "stopline/stoplinelaw08.SafeSteps", spec := "safeSteps", unfollowed := true, recurses := true, named := ["math/bits.deBruijn32tab"], apart := false, laid := [("math/bits.deBruijn32tab", laid_math_bits_deBruijn32tab)] }
def SafeStepsSaid : Prop := safeStepsRow.holds Tryd.pinned (OpenSpec.ofChange safeStepsSpec)

/-- ITS FALSE NEIGHBOUR: 'it returns false'. Refute it at one input. -/
def safeStepsWrong : ChangeSpec := { name := "safeSteps", fn := fun _ => fun
  | [d1, d2, d3] => { results := [.lit (.bool false)], args := [d1, d2, d3] }
  | _ => none }
def SafeStepsWrongFalsely : Prop := safeStepsRow.holds Tryd.pinned (OpenSpec.ofChange safeStepsWrong)

/-- 'stoplinelaw08.SafeTraces': WHATEVER THE INPUT: true; the input reads as it did. -/
def safeTracesSpec : ChangeSpec := { name := "safeTraces", fn := fun _ => fun
  | [d1, d2] => { results := [.lit (.bool true)], args := [d1, d2] }
  | _ => none }
def safeTracesRow : OpenClaim := { program := "ytpnmlgillphodaadoor", sum := "fe3b489255844188698a5f3fd7e35b01b304b51cd2ebf2f1520df52a4bee259f", func := "stopline/stoplinelaw08.SafeTraces", spec := "safeTraces", unfollowed := true, recurses := true, named := ["math/bits.deBruijn32tab"], apart := false, laid := [("math/bits.deBruijn32tab", laid_math_bits_deBruijn32tab)] }
def SafeTracesSaid : Prop := safeTracesRow.holds Tryd.pinned (OpenSpec.ofChange safeTracesSpec)

/-- ITS FALSE NEIGHBOUR: 'it returns false'. Refute it at one input. -/
def safeTracesWrong : ChangeSpec := { name := "safeTraces", fn := fun _ => fun
  | [d1, d2] => { results := [.lit (.bool false)], args := [d1, d2] }
  | _ => none }
def SafeTracesWrongFalsely : Prop := safeTracesRow.holds Tryd.pinned (OpenSpec.ofChange safeTracesWrong)

/-- 'stoplinelaw08.SafeMeans': WHATEVER THE INPUT: true; the input reads as it did. -/
def safeMeansSpec : ChangeSpec := { name := "safeMeans", fn := fun _ => fun
  | [d1, d2] => { results := [.lit (.bool true)], args := [d1, d2] }
  | _ => none }
def safeMeansRow : OpenClaim := { program := "ytpnmlgillphodaadoor", sum := "fe3b489255844188698a5f3fd7e35b01b304b51cd2ebf2f1520df52a4bee259f", func := "stopline/stoplinelaw08.SafeMeans", spec := "safeMeans", unfollowed := true, recurses := true, named := ["math/bits.deBruijn32tab"], apart := false, laid := [("math/bits.deBruijn32tab", laid_math_bits_deBruijn32tab)] }
def SafeMeansSaid : Prop := safeMeansRow.holds Tryd.pinned (OpenSpec.ofChange safeMeansSpec)

/-- ITS FALSE NEIGHBOUR: 'it returns false'. Refute it at one input. -/
def safeMeansWrong : ChangeSpec := { name := "safeMeans", fn := fun _ => fun
  | [d1, d2] => { results := [.lit (.bool false)], args := [d1, d2] }
  | _ => none }
def SafeMeansWrongFalsely : Prop := safeMeansRow.holds Tryd.pinned (OpenSpec.ofChange safeMeansWrong)

/-- 'stoplinelaw08.SafeBegins': WHATEVER THE INPUT: true; the input reads as it did. -/
def safeBeginsSpec : ChangeSpec := { name := "safeBegins", fn := fun _ => fun
  | [d1, d2, d3] => { results := [.lit (.bool true)], args := [d1, d2, d3] }
  | _ => none }
def safeBeginsRow : OpenClaim := { program := "ytpnmlgillphodaadoor", sum := "fe3b489255844188698a5f3fd7e35b01b304b51cd2ebf2f1520df52a4bee259f", func := "stopline/stoplinelaw08.SafeBegins", spec := "safeBegins", unfollowed := true, recurses := true, named := ["math/bits.deBruijn32tab"], apart := false, laid := [("math/bits.deBruijn32tab", laid_math_bits_deBruijn32tab)] }
def SafeBeginsSaid : Prop := safeBeginsRow.holds Tryd.pinned (OpenSpec.ofChange safeBeginsSpec)

/-- ITS FALSE NEIGHBOUR: 'it returns false'. Refute it at one input. -/
def safeBeginsWrong : ChangeSpec := { name := "safeBegins", fn := fun _ => fun
  | [d1, d2, d3] => { results := [.lit (.bool false)], args := [d1, d2, d3] }
  | _ => none }
def SafeBeginsWrongFalsely : Prop := safeBeginsRow.holds Tryd.pinned (OpenSpec.ofChange safeBeginsWrong)

/- THE SECOND FORM. 'bulk': how many values and letters a reading holds, each counted each time it is reached (what is shared counts as often as it is met; a slice's spare places count too). A statement '..UptoSaid' is the law's where the arguments, and the package variables that the reading takes, are together of bulk at most 1048576: NARROWER than '..Said'. Prove '..Said' where nothing that the law and all that it calls make is longer than what came in: it says more and counts as full. Else prove '..UptoSaid'. A law counts once. -/
mutual
def uptoBulk {H : Type} : DataW H → Nat
  | .lit (.string bytes) => bytes.length + 1
  | .lit _ => 1
  | .nil => 1
  | .ptr d => uptoBulk d + 1
  | .slice elems spare => uptoBulkAll elems + uptoBulkAll spare + 1
  | .agg parts => uptoBulkAll parts + 1
  | .iface _ d => uptoBulk d + 1
  | .map entries => uptoBulkEntries entries + 1
  | .held _ => 1
def uptoBulkAll {H : Type} : List (DataW H) → Nat
  | [] => 0
  | d :: r => uptoBulk d + uptoBulkAll r
def uptoBulkEntries {H : Type} : List (Lit × DataW H) → Nat
  | [] => 0
  | x :: r => uptoBulkEntry x + uptoBulkEntries r
def uptoBulkEntry {H : Type} : Lit × DataW H → Nat
  | (.string bytes, d) => bytes.length + uptoBulk d + 1
  | (_, d) => uptoBulk d + 1
 end
def uptoSmall : (H : Type) → List (DataW H) → Bool := fun _ ds => decide (uptoBulkAll ds ≤ 1048576)
def OpenSpec.upto (s : _root_.Go.ChangeSpec) : _root_.Go.OpenSpec := { _root_.Go.OpenSpec.ofChange s with cond := some uptoSmall }

/-- 'stoplinelaw08.SafeNames', WHERE WHAT IT READS IS OF BULK AT MOST 1048576: true; the input reads as it did. -/
def safeNamesUptoRow : OpenClaim := { program := "ytpnmlgillphodaadoor", sum := "fe3b489255844188698a5f3fd7e35b01b304b51cd2ebf2f1520df52a4bee259f", func := "stopline/stoplinelaw08.SafeNames", spec := "safeNames", unfollowed := true, recurses := true, named := ["math/bits.deBruijn32tab"], apart := false, laid := [("math/bits.deBruijn32tab", laid_math_bits_deBruijn32tab)], narrowed := true }
def SafeNamesUptoSaid : Prop := safeNamesUptoRow.holds Tryd.pinned (OpenSpec.upto safeNamesSpec)

/-- 'stoplinelaw08.SafeSteps', WHERE WHAT IT READS IS OF BULK AT MOST 1048576: true; the input reads as it did. -/
def safeStepsUptoRow : OpenClaim := { program := "ytpnmlgillphodaadoor", sum := "fe3b489255844188698a5f3fd7e35b01b304b51cd2ebf2f1520df52a4bee259f", func := "stopline/stoplinelaw08.SafeSteps", spec := "safeSteps", unfollowed := true, recurses := true, named := ["math/bits.deBruijn32tab"], apart := false, laid := [("math/bits.deBruijn32tab", laid_math_bits_deBruijn32tab)], narrowed := true }
def SafeStepsUptoSaid : Prop := safeStepsUptoRow.holds Tryd.pinned (OpenSpec.upto safeStepsSpec)

/-- 'stoplinelaw08.SafeTraces', WHERE WHAT IT READS IS OF BULK AT MOST 1048576: true; the input reads as it did. -/
def safeTracesUptoRow : OpenClaim := { program := "ytpnmlgillphodaadoor", sum := "fe3b489255844188698a5f3fd7e35b01b304b51cd2ebf2f1520df52a4bee259f", func := "stopline/stoplinelaw08.SafeTraces", spec := "safeTraces", unfollowed := true, recurses := true, named := ["math/bits.deBruijn32tab"], apart := false, laid := [("math/bits.deBruijn32tab", laid_math_bits_deBruijn32tab)], narrowed := true }
def SafeTracesUptoSaid : Prop := safeTracesUptoRow.holds Tryd.pinned (OpenSpec.upto safeTracesSpec)

/-- 'stoplinelaw08.SafeMeans', WHERE WHAT IT READS IS OF BULK AT MOST 1048576: true; the input reads as it did. -/
def safeMeansUptoRow : OpenClaim := { program := "ytpnmlgillphodaadoor", sum := "fe3b489255844188698a5f3fd7e35b01b304b51cd2ebf2f1520df52a4bee259f", func := "stopline/stoplinelaw08.SafeMeans", spec := "safeMeans", unfollowed := true, recurses := true, named := ["math/bits.deBruijn32tab"], apart := false, laid := [("math/bits.deBruijn32tab", laid_math_bits_deBruijn32tab)], narrowed := true }
def SafeMeansUptoSaid : Prop := safeMeansUptoRow.holds Tryd.pinned (OpenSpec.upto safeMeansSpec)

/-- 'stoplinelaw08.SafeBegins', WHERE WHAT IT READS IS OF BULK AT MOST 1048576: true; the input reads as it did. -/
def safeBeginsUptoRow : OpenClaim := { program := "ytpnmlgillphodaadoor", sum := "fe3b489255844188698a5f3fd7e35b01b304b51cd2ebf2f1520df52a4bee259f", func := "stopline/stoplinelaw08.SafeBegins", spec := "safeBegins", unfollowed := true, recurses := true, named := ["math/bits.deBruijn32tab"], apart := false, laid := [("math/bits.deBruijn32tab", laid_math_bits_deBruijn32tab)], narrowed := true }
def SafeBeginsUptoSaid : Prop := safeBeginsUptoRow.holds Tryd.pinned (OpenSpec.upto safeBeginsSpec)

end Rows
end Go.Proofs.YtpnmlgillphodaaDoor
