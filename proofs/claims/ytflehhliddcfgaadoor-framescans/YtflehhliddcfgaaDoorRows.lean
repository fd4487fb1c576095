/-
  NARROWER THAN 'FOR EVERY INPUT', by the rows' own cells (each row's printed sentence says how): FrameNames: laid · FrameWrites: laid · FrameScans: laid · FrameFound: laid · FramePieces: laid · FrameBack: laid.
  DERIVED. THE GIVEN ROWS OF THIS SEAT. 6 by the template 'for every input the law returns true; each argument reads behind the call as it read before'; 0 by the template 'total and deterministic' (their statements: YtflehhliddcfgaaDoorTotals.lean).
  GIVEN WITH THE SEED: the statements are not yours to turn. If you find one false, say at which input.
  Laid BY PROGRAM, IN A SANDBOX (cutbox-rows.mjs): the forced cells as the released guide's own fill.sh prints them over the translation f1f565eff873399c… (all of the seat's roots in one cut). By AI agents, Wed Nov 11 2026. No macro, syntax, notation, axiom, sorry.
-/
import Derived.Test.YtflehhliddcfgaaDoorChecked
import GoSem.Claim
import GoSem.ClaimJoined
import GoSem.ClaimMapViews
import Derived.JoinedTies
import Derived.KernelRfl
namespace Go.Proofs.YtflehhliddcfgaaDoor
/- THE CELL 'sum', in the pinned program and in every row, IS THE sha256 OF THE DUMP (.gsa) THAT YtflehhliddcfgaaDoorProg.lean LOADS. Nothing in Lean hashes anything: it is a label: what it is worth is what the hold of that sum in a sandbox is worth. -/
noncomputable def Tryd.pinned : Pinned := { name := "ytflehhliddcfgaadoor", sum := "f1f565eff873399cf8628c69ce19f0a68cb03d9404de3c291e29ff2af2072ae4", checked := Tryd.checked }
namespace Rows
def none {H : Type} : Left H := { results := [], args := [] }

/- WHAT THE LISTED PACKAGE-LEVEL VARIABLES READ AS WHEN THE CALL BEGINS. Each datum BY PROGRAM (the guide's laid-datum.mjs) off the statement by which the dump's own 'gosem.cut.vars' lays the variable. In a bare row this is a premise. The card (YtflehhliddcfgaaDoorCards.lean) ties it to the program's text. -/
def laid_stopline_raw_halfSums {H : Type} : DataW H := .agg [.lit (.int .u32 0), .lit (.int .u32 498536548), .lit (.int .u32 997073096), .lit (.int .u32 651767980), .lit (.int .u32 1994146192), .lit (.int .u32 1802195444), .lit (.int .u32 1303535960), .lit (.int .u32 1342533948), .lit (.int .u32 3988292384), .lit (.int .u32 4027552580), .lit (.int .u32 3604390888), .lit (.int .u32 3412177804), .lit (.int .u32 2607071920), .lit (.int .u32 2262029012), .lit (.int .u32 2685067896), .lit (.int .u32 3183342108)]

/-- 'stoplinelaw04.FrameNames': WHATEVER THE INPUT: true; the input reads as it did. -/
def frameNamesSpec : ChangeSpec := { name := "frameNames", fn := fun _ => fun
  | [] => { results := [.lit (.bool true)], args := [] }
  | _ => none }
def frameNamesRow : OpenClaim := { program := "ytflehhliddcfgaadoor", sum := "f1f565eff873399cf8628c69ce19f0a68cb03d9404de3c291e29ff2af2072ae4", func := "stopline/stoplinelaw04.FrameNames", spec := "frameNames", named := ["stopline/raw.halfSums"], apart := false, laid := [("stopline/raw.halfSums", laid_stopline_raw_halfSums)] }
def FrameNamesSaid : Prop := frameNamesRow.holds Tryd.pinned (OpenSpec.ofChange frameNamesSpec)

/-- ITS FALSE NEIGHBOUR: 'it returns false'. Refute it at one input. -/
def frameNamesWrong : ChangeSpec := { name := "frameNames", fn := fun _ => fun
  | [] => { results := [.lit (.bool false)], args := [] }
  | _ => none }
def FrameNamesWrongFalsely : Prop := frameNamesRow.holds Tryd.pinned (OpenSpec.ofChange frameNamesWrong)

/-- 'stoplinelaw04.FrameWrites': WHATEVER THE INPUT: true; the input reads as it did. -/
def frameWritesSpec : ChangeSpec := { name := "frameWrites", fn := fun _ => fun
  | [d1, d2] => { results := [.lit (.bool true)], args := [d1, d2] }
  | _ => none }
def frameWritesRow : OpenClaim := { program := "ytflehhliddcfgaadoor", sum := "f1f565eff873399cf8628c69ce19f0a68cb03d9404de3c291e29ff2af2072ae4", func := "stopline/stoplinelaw04.FrameWrites", spec := "frameWrites", named := ["stopline/raw.halfSums"], apart := false, laid := [("stopline/raw.halfSums", laid_stopline_raw_halfSums)] }
def FrameWritesSaid : Prop := frameWritesRow.holds Tryd.pinned (OpenSpec.ofChange frameWritesSpec)

/-- ITS FALSE NEIGHBOUR: 'it returns false'. Refute it at one input. -/
def frameWritesWrong : ChangeSpec := { name := "frameWrites", fn := fun _ => fun
  | [d1, d2] => { results := [.lit (.bool false)], args := [d1, d2] }
  | _ => none }
def FrameWritesWrongFalsely : Prop := frameWritesRow.holds Tryd.pinned (OpenSpec.ofChange frameWritesWrong)

/-- 'stoplinelaw04.FrameScans': WHATEVER THE INPUT: true; the input reads as it did. -/
def frameScansSpec : ChangeSpec := { name := "frameScans", fn := fun _ => fun
  | [d1, d2] => { results := [.lit (.bool true)], args := [d1, d2] }
  | _ => none }
def frameScansRow : OpenClaim := { program := "ytflehhliddcfgaadoor", sum := "f1f565eff873399cf8628c69ce19f0a68cb03d9404de3c291e29ff2af2072ae4", func := "stopline/stoplinelaw04.FrameScans", spec := "frameScans", named := ["stopline/raw.halfSums"], apart := false, laid := [("stopline/raw.halfSums", laid_stopline_raw_halfSums)] }
def FrameScansSaid : Prop := frameScansRow.holds Tryd.pinned (OpenSpec.ofChange frameScansSpec)

/-- ITS FALSE NEIGHBOUR: 'it returns false'. Refute it at one input. -/
def frameScansWrong : ChangeSpec := { name := "frameScans", fn := fun _ => fun
  | [d1, d2] => { results := [.lit (.bool false)], args := [d1, d2] }
  | _ => none }
def FrameScansWrongFalsely : Prop := frameScansRow.holds Tryd.pinned (OpenSpec.ofChange frameScansWrong)

/-- 'stoplinelaw04.FrameFound': WHATEVER THE INPUT: true; the input reads as it did. -/
def frameFoundSpec : ChangeSpec := { name := "frameFound", fn := fun _ => fun
  | [d1, d2, d3] => { results := [.lit (.bool true)], args := [d1, d2, d3] }
  | _ => none }
def frameFoundRow : OpenClaim := { program := "ytflehhliddcfgaadoor", sum := "f1f565eff873399cf8628c69ce19f0a68cb03d9404de3c291e29ff2af2072ae4", func := "stopline/stoplinelaw04.FrameFound", spec := "frameFound", named := ["stopline/raw.halfSums"], apart := false, laid := [("stopline/raw.halfSums", laid_stopline_raw_halfSums)] }
def FrameFoundSaid : Prop := frameFoundRow.holds Tryd.pinned (OpenSpec.ofChange frameFoundSpec)

/-- ITS FALSE NEIGHBOUR: 'it returns false'. Refute it at one input. -/
def frameFoundWrong : ChangeSpec := { name := "frameFound", fn := fun _ => fun
  | [d1, d2, d3] => { results := [.lit (.bool false)], args := [d1, d2, d3] }
  | _ => none }
def FrameFoundWrongFalsely : Prop := frameFoundRow.holds Tryd.pinned (OpenSpec.ofChange frameFoundWrong)

/-- 'stoplinelaw04.FramePieces': WHATEVER THE INPUT: true; the input reads as it did. -/
def framePiecesSpec : ChangeSpec := { name := "framePieces", fn := fun _ => fun
  | [d] => { results := [.lit (.bool true)], args := [d] }
  | _ => none }
def framePiecesRow : OpenClaim := { program := "ytflehhliddcfgaadoor", sum := "f1f565eff873399cf8628c69ce19f0a68cb03d9404de3c291e29ff2af2072ae4", func := "stopline/stoplinelaw04.FramePieces", spec := "framePieces", named := ["stopline/raw.halfSums"], apart := false, laid := [("stopline/raw.halfSums", laid_stopline_raw_halfSums)] }
def FramePiecesSaid : Prop := framePiecesRow.holds Tryd.pinned (OpenSpec.ofChange framePiecesSpec)

/-- ITS FALSE NEIGHBOUR: 'it returns false'. Refute it at one input. -/
def framePiecesWrong : ChangeSpec := { name := "framePieces", fn := fun _ => fun
  | [d] => { results := [.lit (.bool false)], args := [d] }
  | _ => none }
def FramePiecesWrongFalsely : Prop := framePiecesRow.holds Tryd.pinned (OpenSpec.ofChange framePiecesWrong)

/-- 'stoplinelaw04.FrameBack': WHATEVER THE INPUT: true; the input reads as it did. -/
def frameBackSpec : ChangeSpec := { name := "frameBack", fn := fun _ => fun
  | [d1, d2] => { results := [.lit (.bool true)], args := [d1, d2] }
  | _ => none }
def frameBackRow : OpenClaim := { program := "ytflehhliddcfgaadoor", sum := "f1f565eff873399cf8628c69ce19f0a68cb03d9404de3c291e29ff2af2072ae4", func := "stopline/stoplinelaw04.FrameBack", spec := "frameBack", named := ["stopline/raw.halfSums"], apart := false, laid := [("stopline/raw.halfSums", laid_stopline_raw_halfSums)] }
def FrameBackSaid : Prop := frameBackRow.holds Tryd.pinned (OpenSpec.ofChange frameBackSpec)

/-- ITS FALSE NEIGHBOUR: 'it returns false'. Refute it at one input. -/
def frameBackWrong : ChangeSpec := { name := "frameBack", fn := fun _ => fun
  | [d1, d2] => { results := [.lit (.bool false)], args := [d1, d2] }
  | _ => none }
def FrameBackWrongFalsely : Prop := frameBackRow.holds Tryd.pinned (OpenSpec.ofChange frameBackWrong)

/- THE SECOND FORM. 'bulk': how many values and letters a reading holds, each counted each time it is reached (what is shared counts as often as it is met; a slice's spare places count too). A statement '..UptoSaid' is the law's where the arguments, and the package variables that the reading takes, are together of bulk at most 1048576: NARROWER than '..Said'. Prove '..Said' where nothing that the law and all that it calls make is longer than what came in: it says more and counts as full. Else prove '..UptoSaid'. A law counts once. -/
mutual
def uptoBulk {H : Type} : DataW H → Nat
  | .lit (.string bytes) => bytes.length + 1
  | .lit _ => 1
  | .nil => 1
  | .ptr d => uptoBulk d + 1
  | .slice elems spare => uptoBulkAll elems + uptoBulkAll spare + 1
  | .agg parts => uptoBulkAll parts + 1
  | .iface _ d => uptoBulk d + 1
  | .map entries => uptoBulkEntries entries + 1
  | .held _ => 1
def uptoBulkAll {H : Type} : List (DataW H) → Nat
  | [] => 0
  | d :: r => uptoBulk d + uptoBulkAll r
def uptoBulkEntries {H : Type} : List (Lit × DataW H) → Nat
  | [] => 0
  | x :: r => uptoBulkEntry x + uptoBulkEntries r
def uptoBulkEntry {H : Type} : Lit × DataW H → Nat
  | (.string bytes, d) => bytes.length + uptoBulk d + 1
  | (_, d) => uptoBulk d + 1
 end
def uptoSmall : (H : Type) → List (DataW H) → Bool := fun _ ds => decide (uptoBulkAll ds ≤ 1048576)
def OpenSpec.upto (s : _root_.Go.ChangeSpec) : _root_.Go.OpenSpec := { _root_.Go.OpenSpec.ofChange s with cond := some uptoSmall }

/-- 'stoplinelaw04.FrameNames', WHERE WHAT IT READS IS OF BULK AT MOST 1048576: true; the input reads as it did. -/
def frameNamesUptoRow : OpenClaim := { program := "ytflehhliddcfgaadoor", sum := "f1f565eff873399cf8628c69ce19f0a68cb03d9404de3c291e29ff2af2072ae4", func := "stopline/stoplinelaw04.FrameNames", spec := "frameNames", named := ["stopline/raw.halfSums"], apart := false, laid := [("stopline/raw.halfSums", laid_stopline_raw_halfSums)], narrowed := true }
def FrameNamesUptoSaid : Prop := frameNamesUptoRow.holds Tryd.pinned (OpenSpec.upto frameNamesSpec)

/-- 'stoplinelaw04.FrameWrites', WHERE WHAT IT READS IS OF BULK AT MOST 1048576: true; the input reads as it did. -/
def frameWritesUptoRow : OpenClaim := { program := "ytflehhliddcfgaadoor", sum := "f1f565eff873399cf8628c69ce19f0a68cb03d9404de3c291e29ff2af2072ae4", func := "stopline/stoplinelaw04.FrameWrites", spec := "frameWrites", named := ["stopline/raw.halfSums"], apart := false, laid := [("stopline/raw.halfSums", laid_stopline_raw_halfSums)], narrowed := true }
def FrameWritesUptoSaid : Prop := frameWritesUptoRow.holds Tryd.pinned (OpenSpec.upto frameWritesSpec)

/-- 'stoplinelaw04.FrameScans', WHERE WHAT IT READS IS OF BULK AT MOST 1048576: true; the input reads as it did. -/
def frameScansUptoRow : OpenClaim := { program := "ytflehhliddcfgaadoor", sum := "f1f565eff873399cf8628c69ce19f0a68cb03d9404de3c291e29ff2af2072ae4", func := "stopline/stoplinelaw04.FrameScans", spec := "frameScans", named := ["stopline/raw.halfSums"], apart := false, laid := [("stopline/raw.halfSums", laid_stopline_raw_halfSums)], narrowed := true }
def FrameScansUptoSaid : Prop := frameScansUptoRow.holds Tryd.pinned (OpenSpec.upto frameScansSpec)

/-- 'stoplinelaw04.FrameFound', WHERE WHAT IT READS IS OF BULK AT MOST 1048576: true; the input reads as it did. -/
def frameFoundUptoRow : OpenClaim := { program := "ytflehhliddcfgaadoor", sum := "f1f565eff873399cf8628c69ce19f0a68cb03d9404de3c291e29ff2af2072ae4", func := "stopline/stoplinelaw04.FrameFound", spec := "frameFound", named := ["stopline/raw.halfSums"], apart := false, laid := [("stopline/raw.halfSums", laid_stopline_raw_halfSums)], narrowed := true }
def FrameFoundUptoSaid : Prop := frameFoundUptoRow.holds Tryd.pinned (OpenSpec.upto frameFoundSpec)

/-- 'stoplinelaw04.FramePieces', WHERE WHAT IT READS IS OF BULK AT MOST 1048576: true; the input reads as it did. -/
def framePiecesUptoRow : OpenClaim := { program := "ytflehhliddcfgaadoor", sum := "f1f565eff873399cf8628c69ce19f0a68cb03d9404de3c291e29ff2af2072ae4", func := "stopline/stoplinelaw04.FramePieces", spec := "framePieces", named := ["stopline/raw.halfSums"], apart := false, laid := [("stopline/raw.halfSums", laid_stopline_raw_halfSums)], narrowed := true }
def FramePiecesUptoSaid : Prop := framePiecesUptoRow.holds Tryd.pinned (OpenSpec.upto framePiecesSpec)

/-- 'stoplinelaw04.FrameBack', WHERE WHAT IT READS IS OF BULK AT MOST 1048576: true; the input reads as it did. -/
def frameBackUptoRow : OpenClaim := { program := "ytflehhliddcfgaadoor", sum := "f1f565eff873399cf8628c69ce19f0a68cb03d9404de3c291e29ff2af2072ae4", func := "stopline/stoplinelaw04.FrameBack", spec := "frameBack", named := ["stopline/raw.halfSums"], apart := false, laid := [("stopline/raw.halfSums", laid_stopline_raw_halfSums)], narrowed := true }
def FrameBackUptoSaid : Prop := frameBackUptoRow.holds Tryd.pinned (OpenSpec.upto frameBackSpec)

end Rows
end Go.Proofs.YtflehhliddcfgaaDoor
