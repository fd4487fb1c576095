/-
  No cell of these rows narrows 'for every input' (looked for: loops, veiled, ifaces, maps, wideKeys, modest, calm, conditions, laid).
  DERIVED. THE GIVEN ROWS OF THIS SEAT. 6 by the template 'for every input the law returns true; each argument reads behind the call as it read before'; 0 by the template 'total and deterministic' (their statements: YtbmgkimfflidiaaTotals.lean).
  GIVEN WITH THE SEED: the statements are not yours to turn. If you find one false, say at which input.
  Laid BY PROGRAM, IN A SANDBOX (cutbox-rows.mjs): the forced cells as the released guide's own fill.sh prints them over the translation bb39507789bc3a2b… (all of the seat's roots in one cut). By AI agents, Wed Nov 11 2026. No macro, syntax, notation, axiom, sorry.
-/
import Derived.Test.YtbmgkimfflidiaaChecked
import GoSem.Claim
import GoSem.ClaimJoined
import GoSem.ClaimMapViews
import Derived.JoinedTies
import Derived.KernelRfl
namespace Go.Proofs.Ytbmgkimfflidiaa
/- THE CELL 'sum', in the pinned program and in every row, IS THE sha256 OF THE DUMP (.gsa) THAT YtbmgkimfflidiaaProg.lean LOADS. Nothing in Lean hashes anything: it is a label: what it is worth is what the hold of that sum in a sandbox is worth. -/
noncomputable def Try.pinned : Pinned := { name := "ytbmgkimfflidiaa", sum := "bb39507789bc3a2b9fbf14b0ac24e421d7c649f09b56beb621415c2296ed96c7", checked := Try.checked }
namespace Rows
def none {H : Type} : Left H := { results := [], args := [] }

/-- 'stoplinelaw01.FixNames': WHATEVER THE INPUT: true; the input reads as it did. -/
def fixNamesSpec : ChangeSpec := { name := "fixNames", fn := fun _ => fun
  | [] => { results := [.lit (.bool true)], args := [] }
  | _ => none }
def fixNamesRow : OpenClaim := { program := "ytbmgkimfflidiaa", sum := "bb39507789bc3a2b9fbf14b0ac24e421d7c649f09b56beb621415c2296ed96c7", func := "stopline/stoplinelaw01.FixNames", spec := "fixNames", apart := false }
def FixNamesSaid : Prop := fixNamesRow.holds Try.pinned (OpenSpec.ofChange fixNamesSpec)

/-- ITS FALSE NEIGHBOUR: 'it returns false'. Refute it at one input. -/
def fixNamesWrong : ChangeSpec := { name := "fixNames", fn := fun _ => fun
  | [] => { results := [.lit (.bool false)], args := [] }
  | _ => none }
def FixNamesWrongFalsely : Prop := fixNamesRow.holds Try.pinned (OpenSpec.ofChange fixNamesWrong)

/-- 'stoplinelaw01.FixReckons': WHATEVER THE INPUT: true; the input reads as it did. -/
def fixReckonsSpec : ChangeSpec := { name := "fixReckons", fn := fun _ => fun
  | [d1, d2] => { results := [.lit (.bool true)], args := [d1, d2] }
  | _ => none }
def fixReckonsRow : OpenClaim := { program := "ytbmgkimfflidiaa", sum := "bb39507789bc3a2b9fbf14b0ac24e421d7c649f09b56beb621415c2296ed96c7", func := "stopline/stoplinelaw01.FixReckons", spec := "fixReckons", apart := false }
def FixReckonsSaid : Prop := fixReckonsRow.holds Try.pinned (OpenSpec.ofChange fixReckonsSpec)

/-- ITS FALSE NEIGHBOUR: 'it returns false'. Refute it at one input. -/
def fixReckonsWrong : ChangeSpec := { name := "fixReckons", fn := fun _ => fun
  | [d1, d2] => { results := [.lit (.bool false)], args := [d1, d2] }
  | _ => none }
def FixReckonsWrongFalsely : Prop := fixReckonsRow.holds Try.pinned (OpenSpec.ofChange fixReckonsWrong)

/-- 'stoplinelaw01.FixTurns': WHATEVER THE INPUT: true; the input reads as it did. -/
def fixTurnsSpec : ChangeSpec := { name := "fixTurns", fn := fun _ => fun
  | [d1, d2, d3, d4] => { results := [.lit (.bool true)], args := [d1, d2, d3, d4] }
  | _ => none }
def fixTurnsRow : OpenClaim := { program := "ytbmgkimfflidiaa", sum := "bb39507789bc3a2b9fbf14b0ac24e421d7c649f09b56beb621415c2296ed96c7", func := "stopline/stoplinelaw01.FixTurns", spec := "fixTurns", apart := false }
def FixTurnsSaid : Prop := fixTurnsRow.holds Try.pinned (OpenSpec.ofChange fixTurnsSpec)

/-- ITS FALSE NEIGHBOUR: 'it returns false'. Refute it at one input. -/
def fixTurnsWrong : ChangeSpec := { name := "fixTurns", fn := fun _ => fun
  | [d1, d2, d3, d4] => { results := [.lit (.bool false)], args := [d1, d2, d3, d4] }
  | _ => none }
def FixTurnsWrongFalsely : Prop := fixTurnsRow.holds Try.pinned (OpenSpec.ofChange fixTurnsWrong)

/-- 'stoplinelaw01.FixBounds': WHATEVER THE INPUT: true; the input reads as it did. -/
def fixBoundsSpec : ChangeSpec := { name := "fixBounds", fn := fun _ => fun
  | [d1, d2, d3, d4] => { results := [.lit (.bool true)], args := [d1, d2, d3, d4] }
  | _ => none }
def fixBoundsRow : OpenClaim := { program := "ytbmgkimfflidiaa", sum := "bb39507789bc3a2b9fbf14b0ac24e421d7c649f09b56beb621415c2296ed96c7", func := "stopline/stoplinelaw01.FixBounds", spec := "fixBounds", apart := false }
def FixBoundsSaid : Prop := fixBoundsRow.holds Try.pinned (OpenSpec.ofChange fixBoundsSpec)

/-- ITS FALSE NEIGHBOUR: 'it returns false'. Refute it at one input. -/
def fixBoundsWrong : ChangeSpec := { name := "fixBounds", fn := fun _ => fun
  | [d1, d2, d3, d4] => { results := [.lit (.bool false)], args := [d1, d2, d3, d4] }
  | _ => none }
def FixBoundsWrongFalsely : Prop := fixBoundsRow.holds Try.pinned (OpenSpec.ofChange fixBoundsWrong)

/-- 'stoplinelaw01.FixTwo': WHATEVER THE INPUT: true; the input reads as it did. -/
def fixTwoSpec : ChangeSpec := { name := "fixTwo", fn := fun _ => fun
  | [d1, d2] => { results := [.lit (.bool true)], args := [d1, d2] }
  | _ => none }
def fixTwoRow : OpenClaim := { program := "ytbmgkimfflidiaa", sum := "bb39507789bc3a2b9fbf14b0ac24e421d7c649f09b56beb621415c2296ed96c7", func := "stopline/stoplinelaw01.FixTwo", spec := "fixTwo", apart := false }
def FixTwoSaid : Prop := fixTwoRow.holds Try.pinned (OpenSpec.ofChange fixTwoSpec)

/-- ITS FALSE NEIGHBOUR: 'it returns false'. Refute it at one input. -/
def fixTwoWrong : ChangeSpec := { name := "fixTwo", fn := fun _ => fun
  | [d1, d2] => { results := [.lit (.bool false)], args := [d1, d2] }
  | _ => none }
def FixTwoWrongFalsely : Prop := fixTwoRow.holds Try.pinned (OpenSpec.ofChange fixTwoWrong)

/-- 'stoplinelaw01.FixOrder': WHATEVER THE INPUT: true; the input reads as it did. -/
def fixOrderSpec : ChangeSpec := { name := "fixOrder", fn := fun _ => fun
  | [d1, d2, d3] => { results := [.lit (.bool true)], args := [d1, d2, d3] }
  | _ => none }
def fixOrderRow : OpenClaim := { program := "ytbmgkimfflidiaa", sum := "bb39507789bc3a2b9fbf14b0ac24e421d7c649f09b56beb621415c2296ed96c7", func := "stopline/stoplinelaw01.FixOrder", spec := "fixOrder", apart := false }
def FixOrderSaid : Prop := fixOrderRow.holds Try.pinned (OpenSpec.ofChange fixOrderSpec)

/-- ITS FALSE NEIGHBOUR: 'it returns false'. Refute it at one input. -/
def fixOrderWrong : ChangeSpec := { name := "fixOrder", fn := fun _ => fun
  | [d1, d2, d3] => { results := [.lit (.bool false)], args := [d1, d2, d3] }
  | _ => none }
def FixOrderWrongFalsely : Prop := fixOrderRow.holds Try.pinned (OpenSpec.ofChange fixOrderWrong)

/- THE SECOND FORM. 'bulk': how many values and letters a reading holds, each counted each time it is reached (what is shared counts as often as it is met; a slice's spare places count too). A statement '..UptoSaid' is the law's where the arguments, and the package variables that the reading takes, are together of bulk at most 1048576: NARROWER than '..Said'. Prove '..Said' where nothing that the law and all that it calls make is longer than what came in: it says more and counts as full. Else prove '..UptoSaid'. A law counts once. -/
mutual
def uptoBulk {H : Type} : DataW H → Nat
  | .lit (.string bytes) => bytes.length + 1
  | .lit _ => 1
  | .nil => 1
  | .ptr d => uptoBulk d + 1
  | .slice elems spare => uptoBulkAll elems + uptoBulkAll spare + 1
  | .agg parts => uptoBulkAll parts + 1
  | .iface _ d => uptoBulk d + 1
  | .map entries => uptoBulkEntries entries + 1
  | .held _ => 1
def uptoBulkAll {H : Type} : List (DataW H) → Nat
  | [] => 0
  | d :: r => uptoBulk d + uptoBulkAll r
def uptoBulkEntries {H : Type} : List (Lit × DataW H) → Nat
  | [] => 0
  | x :: r => uptoBulkEntry x + uptoBulkEntries r
def uptoBulkEntry {H : Type} : Lit × DataW H → Nat
  | (.string bytes, d) => bytes.length + uptoBulk d + 1
  | (_, d) => uptoBulk d + 1
 end
def uptoSmall : (H : Type) → List (DataW H) → Bool := fun _ ds => decide (uptoBulkAll ds ≤ 1048576)
def OpenSpec.upto (s : _root_.Go.ChangeSpec) : _root_.Go.OpenSpec := { _root_.Go.OpenSpec.ofChange s with cond := some uptoSmall }

/-- 'stoplinelaw01.FixNames', WHERE WHAT IT READS IS OF BULK AT MOST 1048576: true; the input reads as it did. -/
def fixNamesUptoRow : OpenClaim := { program := "ytbmgkimfflidiaa", sum := "bb39507789bc3a2b9fbf14b0ac24e421d7c649f09b56beb621415c2296ed96c7", func := "stopline/stoplinelaw01.FixNames", spec := "fixNames", apart := false, narrowed := true }
def FixNamesUptoSaid : Prop := fixNamesUptoRow.holds Try.pinned (OpenSpec.upto fixNamesSpec)

/-- 'stoplinelaw01.FixReckons', WHERE WHAT IT READS IS OF BULK AT MOST 1048576: true; the input reads as it did. -/
def fixReckonsUptoRow : OpenClaim := { program := "ytbmgkimfflidiaa", sum := "bb39507789bc3a2b9fbf14b0ac24e421d7c649f09b56beb621415c2296ed96c7", func := "stopline/stoplinelaw01.FixReckons", spec := "fixReckons", apart := false, narrowed := true }
def FixReckonsUptoSaid : Prop := fixReckonsUptoRow.holds Try.pinned (OpenSpec.upto fixReckonsSpec)

/-- 'stoplinelaw01.FixTurns', WHERE WHAT IT READS IS OF BULK AT MOST 1048576: true; the input reads as it did. -/
def fixTurnsUptoRow : OpenClaim := { program := "ytbmgkimfflidiaa", sum := "bb39507789bc3a2b9fbf14b0ac24e421d7c649f09b56beb621415c2296ed96c7", func := "stopline/stoplinelaw01.FixTurns", spec := "fixTurns", apart := false, narrowed := true }
def FixTurnsUptoSaid : Prop := fixTurnsUptoRow.holds Try.pinned (OpenSpec.upto fixTurnsSpec)

/-- 'stoplinelaw01.FixBounds', WHERE WHAT IT READS IS OF BULK AT MOST 1048576: true; the input reads as it did. -/
def fixBoundsUptoRow : OpenClaim := { program := "ytbmgkimfflidiaa", sum := "bb39507789bc3a2b9fbf14b0ac24e421d7c649f09b56beb621415c2296ed96c7", func := "stopline/stoplinelaw01.FixBounds", spec := "fixBounds", apart := false, narrowed := true }
def FixBoundsUptoSaid : Prop := fixBoundsUptoRow.holds Try.pinned (OpenSpec.upto fixBoundsSpec)

/-- 'stoplinelaw01.FixTwo', WHERE WHAT IT READS IS OF BULK AT MOST 1048576: true; the input reads as it did. -/
def fixTwoUptoRow : OpenClaim := { program := "ytbmgkimfflidiaa", sum := "bb39507789bc3a2b9fbf14b0ac24e421d7c649f09b56beb621415c2296ed96c7", func := "stopline/stoplinelaw01.FixTwo", spec := "fixTwo", apart := false, narrowed := true }
def FixTwoUptoSaid : Prop := fixTwoUptoRow.holds Try.pinned (OpenSpec.upto fixTwoSpec)

/-- 'stoplinelaw01.FixOrder', WHERE WHAT IT READS IS OF BULK AT MOST 1048576: true; the input reads as it did. -/
def fixOrderUptoRow : OpenClaim := { program := "ytbmgkimfflidiaa", sum := "bb39507789bc3a2b9fbf14b0ac24e421d7c649f09b56beb621415c2296ed96c7", func := "stopline/stoplinelaw01.FixOrder", spec := "fixOrder", apart := false, narrowed := true }
def FixOrderUptoSaid : Prop := fixOrderUptoRow.holds Try.pinned (OpenSpec.upto fixOrderSpec)

end Rows
end Go.Proofs.Ytbmgkimfflidiaa
