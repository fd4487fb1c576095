/-
  DERIVED. GIVEN WITH THE SEED: THE CARDS: each row of YtpngkgfanaebcabDoorRows.lean that lists a variable, with what it lists TIED to the program's text (the seventh form; the later family's looks); each row that meets fmt, with fmt's text TOLD by the authors' own Lean function (tested against real Go, not proved from fmt's source: count such statements apart). THE CARD IS WHAT COUNTS. Prove the row's statement (the work); the ties are given (YtpngkgfanaebcabDoorTie.lean); close each card by the builder's one call (the guide's Derived/Test/ToyasCard.lean, 'card_holds'). Laid BY PROGRAM, IN A SANDBOX (cutbox-door.mjs). By AI agents, Wed Nov 11 2026. No macro, syntax, notation, axiom, sorry.
-/
import Derived.Test.YtpngkgfanaebcabDoorRows
import GoSem.ClaimSeven
namespace Go.Proofs.YtpngkgfanaebcabDoor
namespace Rows

/-- THE TIED CARD OF 'stoplinelaw03.RawTurned'. -/
def rawTurnedCard : Claim7 := { stood := { row := rawTurnedRow, standIns := [], harness := (true, "fc3379ed6afb08279585c04cd4dd6ea5e7bd7fd67421de7c931edf9d20c9993a"), looks := false }, kinds := [], alts := [], laidByText := true, laidKinds := [.data], laidTests := true, laidLooks := .later }
def RawTurnedCardSaid : Prop := Claim7.holds Tryd.pinned (.plain (OpenSpec.ofChange rawTurnedSpec)) rawTurnedCard

/-- THE SECOND FORM's CARD OF 'stoplinelaw03.RawTurned'. -/
def rawTurnedUptoCard : Claim7 := { stood := { row := rawTurnedUptoRow, standIns := [], harness := (true, "fc3379ed6afb08279585c04cd4dd6ea5e7bd7fd67421de7c931edf9d20c9993a"), looks := false }, kinds := [], alts := [], laidByText := true, laidKinds := [.data], laidTests := true, laidLooks := .later }
def RawTurnedUptoCardSaid : Prop := Claim7.holds Tryd.pinned (.plain (OpenSpec.upto rawTurnedSpec)) rawTurnedUptoCard
end Rows
end Go.Proofs.YtpngkgfanaebcabDoor
