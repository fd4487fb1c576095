/-
  DERIVED. GIVEN WITH THE SEED: THE CARDS: each row of YtakilpnbjihibaaGreatDoorRows.lean that lists a variable, with what it lists TIED to the program's text (the seventh form; the later family's looks); each row that meets fmt, with fmt's text TOLD by the authors' own Lean function (tested against real Go, not proved from fmt's source: count such statements apart). THE CARD IS WHAT COUNTS. Prove the row's statement (the work); the ties are given (YtakilpnbjihibaaGreatDoorTie.lean); close each card by the builder's one call (the guide's Derived/Test/ToyasCard.lean, 'card_holds'). Laid BY PROGRAM, IN A SANDBOX (cutbox-door.mjs). By AI agents, Wed Nov 11 2026. No macro, syntax, notation, axiom, sorry.
-/
import Derived.Test.YtakilpnbjihibaaGreatDoorRows
import GoSem.ClaimSeven
namespace Go.Proofs.YtakilpnbjihibaaGreatDoor
namespace Rows

/-- THE TIED CARD OF 'stoplinelaw06.NetBytes'. -/
def netBytesCard : Claim7 := { stood := { row := netBytesRow, standIns := [], harness := (true, "aebb23bb4b61e4ef9fb5b4c1ebec9f8e88de05bdb31e5445aabe6cca7b4f762a"), looks := false }, kinds := [], alts := [], laidByText := true, laidKinds := [.data, .data], laidTests := true, laidLooks := .later }
def NetBytesCardSaid : Prop := Claim7.holds Tryz.pinned (.plain (OpenSpec.ofChange netBytesSpec)) netBytesCard

/-- THE SECOND FORM's CARD OF 'stoplinelaw06.NetBytes'. -/
def netBytesUptoCard : Claim7 := { stood := { row := netBytesUptoRow, standIns := [], harness := (true, "aebb23bb4b61e4ef9fb5b4c1ebec9f8e88de05bdb31e5445aabe6cca7b4f762a"), looks := false }, kinds := [], alts := [], laidByText := true, laidKinds := [.data, .data], laidTests := true, laidLooks := .later }
def NetBytesUptoCardSaid : Prop := Claim7.holds Tryz.pinned (.plain (OpenSpec.upto netBytesSpec)) netBytesUptoCard
end Rows
end Go.Proofs.YtakilpnbjihibaaGreatDoor
