/-
  DERIVED. GIVEN WITH THE SEED: THE CARDS: each row of YtpajefkfnhibnabDoorRows.lean that lists a variable, with what it lists TIED to the program's text (the seventh form; the later family's looks); each row that meets fmt, with fmt's text TOLD by the authors' own Lean function (tested against real Go, not proved from fmt's source: count such statements apart). THE CARD IS WHAT COUNTS. Prove the row's statement (the work); the ties are given (YtpajefkfnhibnabDoorTie.lean); close each card by the builder's one call (the guide's Derived/Test/ToyasCard.lean, 'card_holds'). Laid BY PROGRAM, IN A SANDBOX (cutbox-door.mjs). By AI agents, Wed Nov 11 2026. No macro, syntax, notation, axiom, sorry.
-/
import Derived.Test.YtpajefkfnhibnabDoorRows
import GoSem.ClaimSeven
namespace Go.Proofs.YtpajefkfnhibnabDoor
namespace Rows

/-- THE TIED CARD OF 'stoplinelaw05.SiteClear'. -/
def siteClearCard : Claim7 := { stood := { row := siteClearRow, standIns := [], harness := (true, "ca79e04ba320c2b10504ec25a7608cc1836483bd3f63c38e68d6bbd560b586fa"), looks := false }, kinds := [], alts := [], laidByText := true, laidKinds := [.data, .data], laidTests := true, laidLooks := .later }
def SiteClearCardSaid : Prop := Claim7.holds Tryd.pinned (.plain (OpenSpec.ofChange siteClearSpec)) siteClearCard

/-- THE TIED CARD OF 'stoplinelaw05.SiteTurned'. -/
def siteTurnedCard : Claim7 := { stood := { row := siteTurnedRow, standIns := [], harness := (true, "ca79e04ba320c2b10504ec25a7608cc1836483bd3f63c38e68d6bbd560b586fa"), looks := false }, kinds := [], alts := [], laidByText := true, laidKinds := [.data, .data], laidTests := true, laidLooks := .later }
def SiteTurnedCardSaid : Prop := Claim7.holds Tryd.pinned (.plain (OpenSpec.ofChange siteTurnedSpec)) siteTurnedCard

/-- THE SECOND FORM's CARD OF 'stoplinelaw05.SiteClear'. -/
def siteClearUptoCard : Claim7 := { stood := { row := siteClearUptoRow, standIns := [], harness := (true, "ca79e04ba320c2b10504ec25a7608cc1836483bd3f63c38e68d6bbd560b586fa"), looks := false }, kinds := [], alts := [], laidByText := true, laidKinds := [.data, .data], laidTests := true, laidLooks := .later }
def SiteClearUptoCardSaid : Prop := Claim7.holds Tryd.pinned (.plain (OpenSpec.upto siteClearSpec)) siteClearUptoCard

/-- THE SECOND FORM's CARD OF 'stoplinelaw05.SiteTurned'. -/
def siteTurnedUptoCard : Claim7 := { stood := { row := siteTurnedUptoRow, standIns := [], harness := (true, "ca79e04ba320c2b10504ec25a7608cc1836483bd3f63c38e68d6bbd560b586fa"), looks := false }, kinds := [], alts := [], laidByText := true, laidKinds := [.data, .data], laidTests := true, laidLooks := .later }
def SiteTurnedUptoCardSaid : Prop := Claim7.holds Tryd.pinned (.plain (OpenSpec.upto siteTurnedSpec)) siteTurnedUptoCard
end Rows
end Go.Proofs.YtpajefkfnhibnabDoor
