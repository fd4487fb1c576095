/-
  DERIVED. GIVEN WITH THE SEED: THE CARDS: each row of YtdoaikmlkkldeaaDoorRows.lean that lists a variable, with what it lists TIED to the program's text (the seventh form; the later family's looks); each row that meets fmt, with fmt's text TOLD by the authors' own Lean function (tested against real Go, not proved from fmt's source: count such statements apart). THE CARD IS WHAT COUNTS. Prove the row's statement (the work); the ties are given (YtdoaikmlkkldeaaDoorTie.lean); close each card by the builder's one call (the guide's Derived/Test/ToyasCard.lean, 'card_holds'). Laid BY PROGRAM, IN A SANDBOX (cutbox-door.mjs). By AI agents, Wed Nov 11 2026. No macro, syntax, notation, axiom, sorry.
-/
import Derived.Test.YtdoaikmlkkldeaaDoorRows
import GoSem.ClaimSeven
namespace Go.Proofs.YtdoaikmlkkldeaaDoor
namespace Rows

/-- THE TIED CARD OF 'stoplinelaw02.RingNames'. -/
def ringNamesCard : Claim7 := { stood := { row := ringNamesRow, standIns := [], harness := (true, "46b2a0b37f1afadcf75c8597fd76e7a86eb1bea1a4a50f595f006f0f8482562d"), looks := false }, kinds := [], alts := [], laidByText := true, laidKinds := [.data], laidTests := true, laidLooks := .later }
def RingNamesCardSaid : Prop := Claim7.holds Tryd.pinned (.plain (OpenSpec.ofChange ringNamesSpec)) ringNamesCard

/-- THE TIED CARD OF 'stoplinelaw02.RingSets'. -/
def ringSetsCard : Claim7 := { stood := { row := ringSetsRow, standIns := [], harness := (true, "46b2a0b37f1afadcf75c8597fd76e7a86eb1bea1a4a50f595f006f0f8482562d"), looks := false }, kinds := [], alts := [], laidByText := true, laidKinds := [.data], laidTests := true, laidLooks := .later }
def RingSetsCardSaid : Prop := Claim7.holds Tryd.pinned (.plain (OpenSpec.ofChange ringSetsSpec)) ringSetsCard

/-- THE TIED CARD OF 'stoplinelaw02.RingParts'. -/
def ringPartsCard : Claim7 := { stood := { row := ringPartsRow, standIns := [], harness := (true, "46b2a0b37f1afadcf75c8597fd76e7a86eb1bea1a4a50f595f006f0f8482562d"), looks := false }, kinds := [], alts := [], laidByText := true, laidKinds := [.data], laidTests := true, laidLooks := .later }
def RingPartsCardSaid : Prop := Claim7.holds Tryd.pinned (.plain (OpenSpec.ofChange ringPartsSpec)) ringPartsCard

/-- THE SECOND FORM's CARD OF 'stoplinelaw02.RingNames'. -/
def ringNamesUptoCard : Claim7 := { stood := { row := ringNamesUptoRow, standIns := [], harness := (true, "46b2a0b37f1afadcf75c8597fd76e7a86eb1bea1a4a50f595f006f0f8482562d"), looks := false }, kinds := [], alts := [], laidByText := true, laidKinds := [.data], laidTests := true, laidLooks := .later }
def RingNamesUptoCardSaid : Prop := Claim7.holds Tryd.pinned (.plain (OpenSpec.upto ringNamesSpec)) ringNamesUptoCard

/-- THE SECOND FORM's CARD OF 'stoplinelaw02.RingSets'. -/
def ringSetsUptoCard : Claim7 := { stood := { row := ringSetsUptoRow, standIns := [], harness := (true, "46b2a0b37f1afadcf75c8597fd76e7a86eb1bea1a4a50f595f006f0f8482562d"), looks := false }, kinds := [], alts := [], laidByText := true, laidKinds := [.data], laidTests := true, laidLooks := .later }
def RingSetsUptoCardSaid : Prop := Claim7.holds Tryd.pinned (.plain (OpenSpec.upto ringSetsSpec)) ringSetsUptoCard

/-- THE SECOND FORM's CARD OF 'stoplinelaw02.RingParts'. -/
def ringPartsUptoCard : Claim7 := { stood := { row := ringPartsUptoRow, standIns := [], harness := (true, "46b2a0b37f1afadcf75c8597fd76e7a86eb1bea1a4a50f595f006f0f8482562d"), looks := false }, kinds := [], alts := [], laidByText := true, laidKinds := [.data], laidTests := true, laidLooks := .later }
def RingPartsUptoCardSaid : Prop := Claim7.holds Tryd.pinned (.plain (OpenSpec.upto ringPartsSpec)) ringPartsUptoCard
end Rows
end Go.Proofs.YtdoaikmlkkldeaaDoor
