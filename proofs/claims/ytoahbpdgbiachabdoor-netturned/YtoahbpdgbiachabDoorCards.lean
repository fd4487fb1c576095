/-
  DERIVED. GIVEN WITH THE SEED: THE CARDS: each row of YtoahbpdgbiachabDoorRows.lean that lists a variable, with what it lists TIED to the program's text (the seventh form; the later family's looks); each row that meets fmt, with fmt's text TOLD by the authors' own Lean function (tested against real Go, not proved from fmt's source: count such statements apart). THE CARD IS WHAT COUNTS. Prove the row's statement (the work); the ties are given (YtoahbpdgbiachabDoorTie.lean); close each card by the builder's one call (the guide's Derived/Test/ToyasCard.lean, 'card_holds'). Laid BY PROGRAM, IN A SANDBOX (cutbox-door.mjs). By AI agents, Wed Nov 11 2026. No macro, syntax, notation, axiom, sorry.
-/
import Derived.Test.YtoahbpdgbiachabDoorRows
import GoSem.ClaimSeven
namespace Go.Proofs.YtoahbpdgbiachabDoor
namespace Rows

/-- THE TIED CARD OF 'stoplinelaw06.NetTurned'. -/
def netTurnedCard : Claim7 := { stood := { row := netTurnedRow, standIns := [], harness := (true, "24635c6ed5a4150a8c26740ca1020ac445a52b047ae32e9a5e9e005b83c07952"), looks := false }, kinds := [], alts := [], laidByText := true, laidKinds := [.data, .data], laidTests := true, laidLooks := .later }
def NetTurnedCardSaid : Prop := Claim7.holds Tryd.pinned (.plain (OpenSpec.ofChange netTurnedSpec)) netTurnedCard

/-- THE SECOND FORM's CARD OF 'stoplinelaw06.NetTurned'. -/
def netTurnedUptoCard : Claim7 := { stood := { row := netTurnedUptoRow, standIns := [], harness := (true, "24635c6ed5a4150a8c26740ca1020ac445a52b047ae32e9a5e9e005b83c07952"), looks := false }, kinds := [], alts := [], laidByText := true, laidKinds := [.data, .data], laidTests := true, laidLooks := .later }
def NetTurnedUptoCardSaid : Prop := Claim7.holds Tryd.pinned (.plain (OpenSpec.upto netTurnedSpec)) netTurnedUptoCard
end Rows
end Go.Proofs.YtoahbpdgbiachabDoor
