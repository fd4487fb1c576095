/-
  NARROWER THAN 'FOR EVERY INPUT', by the rows' own cells (each row's printed sentence says how): RawNames: laid · RawSums: laid · RawBack: laid · RawOnly: laid · RawShort: laid.
  DERIVED. THE GIVEN ROWS OF THIS SEAT. 5 by the template 'for every input the law returns true; each argument reads behind the call as it read before'; 0 by the template 'total and deterministic' (their statements: YtpngkgfanaebcaaDoorTotals.lean).
  GIVEN WITH THE SEED: the statements are not yours to turn. If you find one false, say at which input.
  Laid BY PROGRAM, IN A SANDBOX (cutbox-rows.mjs): the forced cells as the released guide's own fill.sh prints them over the translation 96c7a8935332e2f5… (all of the seat's roots in one cut). By AI agents, Wed Nov 11 2026. No macro, syntax, notation, axiom, sorry.
-/
import Derived.Test.YtpngkgfanaebcaaDoorChecked
import GoSem.Claim
import GoSem.ClaimJoined
import GoSem.ClaimMapViews
import Derived.JoinedTies
import Derived.KernelRfl
namespace Go.Proofs.YtpngkgfanaebcaaDoor
/- THE CELL 'sum', in the pinned program and in every row, IS THE sha256 OF THE DUMP (.gsa) THAT YtpngkgfanaebcaaDoorProg.lean LOADS. Nothing in Lean hashes anything: it is a label: what it is worth is what the hold of that sum in a sandbox is worth. -/
noncomputable def Tryd.pinned : Pinned := { name := "ytpngkgfanaebcaadoor", sum := "96c7a8935332e2f51e9607bff7b5910e1b081fea9a16df2f610b0fb1179194d3", checked := Tryd.checked }
namespace Rows
def none {H : Type} : Left H := { results := [], args := [] }

/- WHAT THE LISTED PACKAGE-LEVEL VARIABLES READ AS WHEN THE CALL BEGINS. Each datum BY PROGRAM (the guide's laid-datum.mjs) off the statement by which the dump's own 'gosem.cut.vars' lays the variable. In a bare row this is a premise. The card (YtpngkgfanaebcaaDoorCards.lean) ties it to the program's text. -/
def laid_stopline_raw_halfSums {H : Type} : DataW H := .agg [.lit (.int .u32 0), .lit (.int .u32 498536548), .lit (.int .u32 997073096), .lit (.int .u32 651767980), .lit (.int .u32 1994146192), .lit (.int .u32 1802195444), .lit (.int .u32 1303535960), .lit (.int .u32 1342533948), .lit (.int .u32 3988292384), .lit (.int .u32 4027552580), .lit (.int .u32 3604390888), .lit (.int .u32 3412177804), .lit (.int .u32 2607071920), .lit (.int .u32 2262029012), .lit (.int .u32 2685067896), .lit (.int .u32 3183342108)]

/-- 'stoplinelaw03.RawNames': WHATEVER THE INPUT: true; the input reads as it did. -/
def rawNamesSpec : ChangeSpec := { name := "rawNames", fn := fun _ => fun
  | [] => { results := [.lit (.bool true)], args := [] }
  | _ => none }
def rawNamesRow : OpenClaim := { program := "ytpngkgfanaebcaadoor", sum := "96c7a8935332e2f51e9607bff7b5910e1b081fea9a16df2f610b0fb1179194d3", func := "stopline/stoplinelaw03.RawNames", spec := "rawNames", named := ["stopline/raw.halfSums"], apart := false, laid := [("stopline/raw.halfSums", laid_stopline_raw_halfSums)] }
def RawNamesSaid : Prop := rawNamesRow.holds Tryd.pinned (OpenSpec.ofChange rawNamesSpec)

/-- ITS FALSE NEIGHBOUR: 'it returns false'. Refute it at one input. -/
def rawNamesWrong : ChangeSpec := { name := "rawNames", fn := fun _ => fun
  | [] => { results := [.lit (.bool false)], args := [] }
  | _ => none }
def RawNamesWrongFalsely : Prop := rawNamesRow.holds Tryd.pinned (OpenSpec.ofChange rawNamesWrong)

/-- 'stoplinelaw03.RawSums': WHATEVER THE INPUT: true; the input reads as it did. -/
def rawSumsSpec : ChangeSpec := { name := "rawSums", fn := fun _ => fun
  | [d] => { results := [.lit (.bool true)], args := [d] }
  | _ => none }
def rawSumsRow : OpenClaim := { program := "ytpngkgfanaebcaadoor", sum := "96c7a8935332e2f51e9607bff7b5910e1b081fea9a16df2f610b0fb1179194d3", func := "stopline/stoplinelaw03.RawSums", spec := "rawSums", named := ["stopline/raw.halfSums"], apart := false, laid := [("stopline/raw.halfSums", laid_stopline_raw_halfSums)] }
def RawSumsSaid : Prop := rawSumsRow.holds Tryd.pinned (OpenSpec.ofChange rawSumsSpec)

/-- ITS FALSE NEIGHBOUR: 'it returns false'. Refute it at one input. -/
def rawSumsWrong : ChangeSpec := { name := "rawSums", fn := fun _ => fun
  | [d] => { results := [.lit (.bool false)], args := [d] }
  | _ => none }
def RawSumsWrongFalsely : Prop := rawSumsRow.holds Tryd.pinned (OpenSpec.ofChange rawSumsWrong)

/-- 'stoplinelaw03.RawBack': WHATEVER THE INPUT: true; the input reads as it did. -/
def rawBackSpec : ChangeSpec := { name := "rawBack", fn := fun _ => fun
  | [d1, d2, d3] => { results := [.lit (.bool true)], args := [d1, d2, d3] }
  | _ => none }
def rawBackRow : OpenClaim := { program := "ytpngkgfanaebcaadoor", sum := "96c7a8935332e2f51e9607bff7b5910e1b081fea9a16df2f610b0fb1179194d3", func := "stopline/stoplinelaw03.RawBack", spec := "rawBack", named := ["stopline/raw.halfSums"], apart := false, laid := [("stopline/raw.halfSums", laid_stopline_raw_halfSums)] }
def RawBackSaid : Prop := rawBackRow.holds Tryd.pinned (OpenSpec.ofChange rawBackSpec)

/-- ITS FALSE NEIGHBOUR: 'it returns false'. Refute it at one input. -/
def rawBackWrong : ChangeSpec := { name := "rawBack", fn := fun _ => fun
  | [d1, d2, d3] => { results := [.lit (.bool false)], args := [d1, d2, d3] }
  | _ => none }
def RawBackWrongFalsely : Prop := rawBackRow.holds Tryd.pinned (OpenSpec.ofChange rawBackWrong)

/-- 'stoplinelaw03.RawOnly': WHATEVER THE INPUT: true; the input reads as it did. -/
def rawOnlySpec : ChangeSpec := { name := "rawOnly", fn := fun _ => fun
  | [d] => { results := [.lit (.bool true)], args := [d] }
  | _ => none }
def rawOnlyRow : OpenClaim := { program := "ytpngkgfanaebcaadoor", sum := "96c7a8935332e2f51e9607bff7b5910e1b081fea9a16df2f610b0fb1179194d3", func := "stopline/stoplinelaw03.RawOnly", spec := "rawOnly", named := ["stopline/raw.halfSums"], apart := false, laid := [("stopline/raw.halfSums", laid_stopline_raw_halfSums)] }
def RawOnlySaid : Prop := rawOnlyRow.holds Tryd.pinned (OpenSpec.ofChange rawOnlySpec)

/-- ITS FALSE NEIGHBOUR: 'it returns false'. Refute it at one input. -/
def rawOnlyWrong : ChangeSpec := { name := "rawOnly", fn := fun _ => fun
  | [d] => { results := [.lit (.bool false)], args := [d] }
  | _ => none }
def RawOnlyWrongFalsely : Prop := rawOnlyRow.holds Tryd.pinned (OpenSpec.ofChange rawOnlyWrong)

/-- 'stoplinelaw03.RawShort': WHATEVER THE INPUT: true; the input reads as it did. -/
def rawShortSpec : ChangeSpec := { name := "rawShort", fn := fun _ => fun
  | [d] => { results := [.lit (.bool true)], args := [d] }
  | _ => none }
def rawShortRow : OpenClaim := { program := "ytpngkgfanaebcaadoor", sum := "96c7a8935332e2f51e9607bff7b5910e1b081fea9a16df2f610b0fb1179194d3", func := "stopline/stoplinelaw03.RawShort", spec := "rawShort", named := ["stopline/raw.halfSums"], apart := false, laid := [("stopline/raw.halfSums", laid_stopline_raw_halfSums)] }
def RawShortSaid : Prop := rawShortRow.holds Tryd.pinned (OpenSpec.ofChange rawShortSpec)

/-- ITS FALSE NEIGHBOUR: 'it returns false'. Refute it at one input. -/
def rawShortWrong : ChangeSpec := { name := "rawShort", fn := fun _ => fun
  | [d] => { results := [.lit (.bool false)], args := [d] }
  | _ => none }
def RawShortWrongFalsely : Prop := rawShortRow.holds Tryd.pinned (OpenSpec.ofChange rawShortWrong)

/- THE SECOND FORM. 'bulk': how many values and letters a reading holds, each counted each time it is reached (what is shared counts as often as it is met; a slice's spare places count too). A statement '..UptoSaid' is the law's where the arguments, and the package variables that the reading takes, are together of bulk at most 1048576: NARROWER than '..Said'. Prove '..Said' where nothing that the law and all that it calls make is longer than what came in: it says more and counts as full. Else prove '..UptoSaid'. A law counts once. -/
mutual
def uptoBulk {H : Type} : DataW H → Nat
  | .lit (.string bytes) => bytes.length + 1
  | .lit _ => 1
  | .nil => 1
  | .ptr d => uptoBulk d + 1
  | .slice elems spare => uptoBulkAll elems + uptoBulkAll spare + 1
  | .agg parts => uptoBulkAll parts + 1
  | .iface _ d => uptoBulk d + 1
  | .map entries => uptoBulkEntries entries + 1
  | .held _ => 1
def uptoBulkAll {H : Type} : List (DataW H) → Nat
  | [] => 0
  | d :: r => uptoBulk d + uptoBulkAll r
def uptoBulkEntries {H : Type} : List (Lit × DataW H) → Nat
  | [] => 0
  | x :: r => uptoBulkEntry x + uptoBulkEntries r
def uptoBulkEntry {H : Type} : Lit × DataW H → Nat
  | (.string bytes, d) => bytes.length + uptoBulk d + 1
  | (_, d) => uptoBulk d + 1
 end
def uptoSmall : (H : Type) → List (DataW H) → Bool := fun _ ds => decide (uptoBulkAll ds ≤ 1048576)
def OpenSpec.upto (s : _root_.Go.ChangeSpec) : _root_.Go.OpenSpec := { _root_.Go.OpenSpec.ofChange s with cond := some uptoSmall }

/-- 'stoplinelaw03.RawNames', WHERE WHAT IT READS IS OF BULK AT MOST 1048576: true; the input reads as it did. -/
def rawNamesUptoRow : OpenClaim := { program := "ytpngkgfanaebcaadoor", sum := "96c7a8935332e2f51e9607bff7b5910e1b081fea9a16df2f610b0fb1179194d3", func := "stopline/stoplinelaw03.RawNames", spec := "rawNames", named := ["stopline/raw.halfSums"], apart := false, laid := [("stopline/raw.halfSums", laid_stopline_raw_halfSums)], narrowed := true }
def RawNamesUptoSaid : Prop := rawNamesUptoRow.holds Tryd.pinned (OpenSpec.upto rawNamesSpec)

/-- 'stoplinelaw03.RawSums', WHERE WHAT IT READS IS OF BULK AT MOST 1048576: true; the input reads as it did. -/
def rawSumsUptoRow : OpenClaim := { program := "ytpngkgfanaebcaadoor", sum := "96c7a8935332e2f51e9607bff7b5910e1b081fea9a16df2f610b0fb1179194d3", func := "stopline/stoplinelaw03.RawSums", spec := "rawSums", named := ["stopline/raw.halfSums"], apart := false, laid := [("stopline/raw.halfSums", laid_stopline_raw_halfSums)], narrowed := true }
def RawSumsUptoSaid : Prop := rawSumsUptoRow.holds Tryd.pinned (OpenSpec.upto rawSumsSpec)

/-- 'stoplinelaw03.RawBack', WHERE WHAT IT READS IS OF BULK AT MOST 1048576: true; the input reads as it did. -/
def rawBackUptoRow : OpenClaim := { program := "ytpngkgfanaebcaadoor", sum := "96c7a8935332e2f51e9607bff7b5910e1b081fea9a16df2f610b0fb1179194d3", func := "stopline/stoplinelaw03.RawBack", spec := "rawBack", named := ["stopline/raw.halfSums"], apart := false, laid := [("stopline/raw.halfSums", laid_stopline_raw_halfSums)], narrowed := true }
def RawBackUptoSaid : Prop := rawBackUptoRow.holds Tryd.pinned (OpenSpec.upto rawBackSpec)

/-- 'stoplinelaw03.RawOnly', WHERE WHAT IT READS IS OF BULK AT MOST 1048576: true; the input reads as it did. -/
def rawOnlyUptoRow : OpenClaim := { program := "ytpngkgfanaebcaadoor", sum := "96c7a8935332e2f51e9607bff7b5910e1b081fea9a16df2f610b0fb1179194d3", func := "stopline/stoplinelaw03.RawOnly", spec := "rawOnly", named := ["stopline/raw.halfSums"], apart := false, laid := [("stopline/raw.halfSums", laid_stopline_raw_halfSums)], narrowed := true }
def RawOnlyUptoSaid : Prop := rawOnlyUptoRow.holds Tryd.pinned (OpenSpec.upto rawOnlySpec)

/-- 'stoplinelaw03.RawShort', WHERE WHAT IT READS IS OF BULK AT MOST 1048576: true; the input reads as it did. -/
def rawShortUptoRow : OpenClaim := { program := "ytpngkgfanaebcaadoor", sum := "96c7a8935332e2f51e9607bff7b5910e1b081fea9a16df2f610b0fb1179194d3", func := "stopline/stoplinelaw03.RawShort", spec := "rawShort", named := ["stopline/raw.halfSums"], apart := false, laid := [("stopline/raw.halfSums", laid_stopline_raw_halfSums)], narrowed := true }
def RawShortUptoSaid : Prop := rawShortUptoRow.holds Tryd.pinned (OpenSpec.upto rawShortSpec)

end Rows
end Go.Proofs.YtpngkgfanaebcaaDoor
