/-
  DERIVED. GIVEN WITH THE SEED: THE CARDS: each row of YtcgflfngoaccoaaDoorRows.lean that lists a variable, with what it lists TIED to the program's text (the seventh form; the later family's looks); each row that meets fmt, with fmt's text TOLD by the authors' own Lean function (tested against real Go, not proved from fmt's source: count such statements apart). THE CARD IS WHAT COUNTS. Prove the row's statement (the work); the ties are given (YtcgflfngoaccoaaDoorTie.lean); close each card by the builder's one call (the guide's Derived/Test/ToyasCard.lean, 'card_holds'). Laid BY PROGRAM, IN A SANDBOX (cutbox-door.mjs). By AI agents, Wed Nov 11 2026. No macro, syntax, notation, axiom, sorry.
-/
import Derived.Test.YtcgflfngoaccoaaDoorRows
import GoSem.ClaimSeven
namespace Go.Proofs.YtcgflfngoaccoaaDoor
namespace Rows

/-- THE TIED CARD OF 'stoplinelaw08.SafeMeans'. -/
def safeMeansCard : Claim7 := { stood := { row := safeMeansRow, standIns := [], harness := (true, "9a2861f62e150badcd8dd919aee107da5bbd5f0c204badc8b0d502f248484976"), looks := false }, kinds := [], alts := [], laidByText := true, laidKinds := [.data], laidTests := true, laidLooks := .later }
def SafeMeansCardSaid : Prop := Claim7.holds Tryd.pinned (.plain (OpenSpec.ofChange safeMeansSpec)) safeMeansCard

/-- THE SECOND FORM's CARD OF 'stoplinelaw08.SafeMeans'. -/
def safeMeansUptoCard : Claim7 := { stood := { row := safeMeansUptoRow, standIns := [], harness := (true, "9a2861f62e150badcd8dd919aee107da5bbd5f0c204badc8b0d502f248484976"), looks := false }, kinds := [], alts := [], laidByText := true, laidKinds := [.data], laidTests := true, laidLooks := .later }
def SafeMeansUptoCardSaid : Prop := Claim7.holds Tryd.pinned (.plain (OpenSpec.upto safeMeansSpec)) safeMeansUptoCard
end Rows
end Go.Proofs.YtcgflfngoaccoaaDoor
