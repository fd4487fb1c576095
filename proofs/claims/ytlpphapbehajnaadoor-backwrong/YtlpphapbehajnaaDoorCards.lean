/-
  DERIVED. GIVEN WITH THE SEED: THE CARDS: each row of YtlpphapbehajnaaDoorRows.lean that lists a variable, with what it lists TIED to the program's text (the seventh form; the later family's looks); each row that meets fmt, with fmt's text TOLD by the authors' own Lean function (tested against real Go, not proved from fmt's source: count such statements apart). THE CARD IS WHAT COUNTS. Prove the row's statement (the work); the ties are given (YtlpphapbehajnaaDoorTie.lean); close each card by the builder's one call (the guide's Derived/Test/ToyasCard.lean, 'card_holds'). Laid BY PROGRAM, IN A SANDBOX (cutbox-door.mjs). By AI agents, Wed Nov 11 2026. No macro, syntax, notation, axiom, sorry.
-/
import Derived.Test.YtlpphapbehajnaaDoorRows
import GoSem.ClaimSeven
namespace Go.Proofs.YtlpphapbehajnaaDoor
namespace Rows

/-- THE TIED CARD OF 'stoplinelaw10.BackNames'. -/
def backNamesCard : Claim7 := { stood := { row := backNamesRow, standIns := [], harness := (true, "9595f97e691218f56fe8e3d34cd1093f12b0d6252319c2f7d4b24f67e20d6e88"), looks := false }, kinds := [], alts := [], laidByText := true, laidKinds := [.data], laidTests := true, laidLooks := .later }
def BackNamesCardSaid : Prop := Claim7.holds Tryd.pinned (.plain (OpenSpec.ofChange backNamesSpec)) backNamesCard

/-- THE TIED CARD OF 'stoplinelaw10.BackWrong'. -/
def backWrongCard : Claim7 := { stood := { row := backWrongRow, standIns := [], harness := (true, "9595f97e691218f56fe8e3d34cd1093f12b0d6252319c2f7d4b24f67e20d6e88"), looks := false }, kinds := [], alts := [], laidByText := true, laidKinds := [.data], laidTests := true, laidLooks := .later }
def BackWrongCardSaid : Prop := Claim7.holds Tryd.pinned (.plain (OpenSpec.ofChange backWrongSpec)) backWrongCard

/-- THE TIED CARD OF 'stoplinelaw10.BackRight'. -/
def backRightCard : Claim7 := { stood := { row := backRightRow, standIns := [], harness := (true, "9595f97e691218f56fe8e3d34cd1093f12b0d6252319c2f7d4b24f67e20d6e88"), looks := false }, kinds := [], alts := [], laidByText := true, laidKinds := [.data], laidTests := true, laidLooks := .later }
def BackRightCardSaid : Prop := Claim7.holds Tryd.pinned (.plain (OpenSpec.ofChange backRightSpec)) backRightCard

/-- THE TIED CARD OF 'stoplinelaw10.BackFeed'. -/
def backFeedCard : Claim7 := { stood := { row := backFeedRow, standIns := [], harness := (true, "9595f97e691218f56fe8e3d34cd1093f12b0d6252319c2f7d4b24f67e20d6e88"), looks := false }, kinds := [], alts := [], laidByText := true, laidKinds := [.data], laidTests := true, laidLooks := .later }
def BackFeedCardSaid : Prop := Claim7.holds Tryd.pinned (.plain (OpenSpec.ofChange backFeedSpec)) backFeedCard

/-- THE SECOND FORM's CARD OF 'stoplinelaw10.BackNames'. -/
def backNamesUptoCard : Claim7 := { stood := { row := backNamesUptoRow, standIns := [], harness := (true, "9595f97e691218f56fe8e3d34cd1093f12b0d6252319c2f7d4b24f67e20d6e88"), looks := false }, kinds := [], alts := [], laidByText := true, laidKinds := [.data], laidTests := true, laidLooks := .later }
def BackNamesUptoCardSaid : Prop := Claim7.holds Tryd.pinned (.plain (OpenSpec.upto backNamesSpec)) backNamesUptoCard

/-- THE SECOND FORM's CARD OF 'stoplinelaw10.BackWrong'. -/
def backWrongUptoCard : Claim7 := { stood := { row := backWrongUptoRow, standIns := [], harness := (true, "9595f97e691218f56fe8e3d34cd1093f12b0d6252319c2f7d4b24f67e20d6e88"), looks := false }, kinds := [], alts := [], laidByText := true, laidKinds := [.data], laidTests := true, laidLooks := .later }
def BackWrongUptoCardSaid : Prop := Claim7.holds Tryd.pinned (.plain (OpenSpec.upto backWrongSpec)) backWrongUptoCard

/-- THE SECOND FORM's CARD OF 'stoplinelaw10.BackRight'. -/
def backRightUptoCard : Claim7 := { stood := { row := backRightUptoRow, standIns := [], harness := (true, "9595f97e691218f56fe8e3d34cd1093f12b0d6252319c2f7d4b24f67e20d6e88"), looks := false }, kinds := [], alts := [], laidByText := true, laidKinds := [.data], laidTests := true, laidLooks := .later }
def BackRightUptoCardSaid : Prop := Claim7.holds Tryd.pinned (.plain (OpenSpec.upto backRightSpec)) backRightUptoCard

/-- THE SECOND FORM's CARD OF 'stoplinelaw10.BackFeed'. -/
def backFeedUptoCard : Claim7 := { stood := { row := backFeedUptoRow, standIns := [], harness := (true, "9595f97e691218f56fe8e3d34cd1093f12b0d6252319c2f7d4b24f67e20d6e88"), looks := false }, kinds := [], alts := [], laidByText := true, laidKinds := [.data], laidTests := true, laidLooks := .later }
def BackFeedUptoCardSaid : Prop := Claim7.holds Tryd.pinned (.plain (OpenSpec.upto backFeedSpec)) backFeedUptoCard
end Rows
end Go.Proofs.YtlpphapbehajnaaDoor
