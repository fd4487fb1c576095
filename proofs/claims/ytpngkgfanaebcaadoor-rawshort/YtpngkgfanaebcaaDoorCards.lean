/-
  DERIVED. GIVEN WITH THE SEED: THE CARDS: each row of YtpngkgfanaebcaaDoorRows.lean that lists a variable, with what it lists TIED to the program's text (the seventh form; the later family's looks); each row that meets fmt, with fmt's text TOLD by the authors' own Lean function (tested against real Go, not proved from fmt's source: count such statements apart). THE CARD IS WHAT COUNTS. Prove the row's statement (the work); the ties are given (YtpngkgfanaebcaaDoorTie.lean); close each card by the builder's one call (the guide's Derived/Test/ToyasCard.lean, 'card_holds'). Laid BY PROGRAM, IN A SANDBOX (cutbox-door.mjs). By AI agents, Wed Nov 11 2026. No macro, syntax, notation, axiom, sorry.
-/
import Derived.Test.YtpngkgfanaebcaaDoorRows
import GoSem.ClaimSeven
namespace Go.Proofs.YtpngkgfanaebcaaDoor
namespace Rows

/-- THE TIED CARD OF 'stoplinelaw03.RawNames'. -/
def rawNamesCard : Claim7 := { stood := { row := rawNamesRow, standIns := [], harness := (true, "5eecd67b3b5ecf949c5fda304417cb88ccc193e89ec00081ed7b728d0848adbd"), looks := false }, kinds := [], alts := [], laidByText := true, laidKinds := [.data], laidTests := true, laidLooks := .later }
def RawNamesCardSaid : Prop := Claim7.holds Tryd.pinned (.plain (OpenSpec.ofChange rawNamesSpec)) rawNamesCard

/-- THE TIED CARD OF 'stoplinelaw03.RawSums'. -/
def rawSumsCard : Claim7 := { stood := { row := rawSumsRow, standIns := [], harness := (true, "5eecd67b3b5ecf949c5fda304417cb88ccc193e89ec00081ed7b728d0848adbd"), looks := false }, kinds := [], alts := [], laidByText := true, laidKinds := [.data], laidTests := true, laidLooks := .later }
def RawSumsCardSaid : Prop := Claim7.holds Tryd.pinned (.plain (OpenSpec.ofChange rawSumsSpec)) rawSumsCard

/-- THE TIED CARD OF 'stoplinelaw03.RawBack'. -/
def rawBackCard : Claim7 := { stood := { row := rawBackRow, standIns := [], harness := (true, "5eecd67b3b5ecf949c5fda304417cb88ccc193e89ec00081ed7b728d0848adbd"), looks := false }, kinds := [], alts := [], laidByText := true, laidKinds := [.data], laidTests := true, laidLooks := .later }
def RawBackCardSaid : Prop := Claim7.holds Tryd.pinned (.plain (OpenSpec.ofChange rawBackSpec)) rawBackCard

/-- THE TIED CARD OF 'stoplinelaw03.RawOnly'. -/
def rawOnlyCard : Claim7 := { stood := { row := rawOnlyRow, standIns := [], harness := (true, "5eecd67b3b5ecf949c5fda304417cb88ccc193e89ec00081ed7b728d0848adbd"), looks := false }, kinds := [], alts := [], laidByText := true, laidKinds := [.data], laidTests := true, laidLooks := .later }
def RawOnlyCardSaid : Prop := Claim7.holds Tryd.pinned (.plain (OpenSpec.ofChange rawOnlySpec)) rawOnlyCard

/-- THE TIED CARD OF 'stoplinelaw03.RawShort'. -/
def rawShortCard : Claim7 := { stood := { row := rawShortRow, standIns := [], harness := (true, "5eecd67b3b5ecf949c5fda304417cb88ccc193e89ec00081ed7b728d0848adbd"), looks := false }, kinds := [], alts := [], laidByText := true, laidKinds := [.data], laidTests := true, laidLooks := .later }
def RawShortCardSaid : Prop := Claim7.holds Tryd.pinned (.plain (OpenSpec.ofChange rawShortSpec)) rawShortCard

/-- THE SECOND FORM's CARD OF 'stoplinelaw03.RawNames'. -/
def rawNamesUptoCard : Claim7 := { stood := { row := rawNamesUptoRow, standIns := [], harness := (true, "5eecd67b3b5ecf949c5fda304417cb88ccc193e89ec00081ed7b728d0848adbd"), looks := false }, kinds := [], alts := [], laidByText := true, laidKinds := [.data], laidTests := true, laidLooks := .later }
def RawNamesUptoCardSaid : Prop := Claim7.holds Tryd.pinned (.plain (OpenSpec.upto rawNamesSpec)) rawNamesUptoCard

/-- THE SECOND FORM's CARD OF 'stoplinelaw03.RawSums'. -/
def rawSumsUptoCard : Claim7 := { stood := { row := rawSumsUptoRow, standIns := [], harness := (true, "5eecd67b3b5ecf949c5fda304417cb88ccc193e89ec00081ed7b728d0848adbd"), looks := false }, kinds := [], alts := [], laidByText := true, laidKinds := [.data], laidTests := true, laidLooks := .later }
def RawSumsUptoCardSaid : Prop := Claim7.holds Tryd.pinned (.plain (OpenSpec.upto rawSumsSpec)) rawSumsUptoCard

/-- THE SECOND FORM's CARD OF 'stoplinelaw03.RawBack'. -/
def rawBackUptoCard : Claim7 := { stood := { row := rawBackUptoRow, standIns := [], harness := (true, "5eecd67b3b5ecf949c5fda304417cb88ccc193e89ec00081ed7b728d0848adbd"), looks := false }, kinds := [], alts := [], laidByText := true, laidKinds := [.data], laidTests := true, laidLooks := .later }
def RawBackUptoCardSaid : Prop := Claim7.holds Tryd.pinned (.plain (OpenSpec.upto rawBackSpec)) rawBackUptoCard

/-- THE SECOND FORM's CARD OF 'stoplinelaw03.RawOnly'. -/
def rawOnlyUptoCard : Claim7 := { stood := { row := rawOnlyUptoRow, standIns := [], harness := (true, "5eecd67b3b5ecf949c5fda304417cb88ccc193e89ec00081ed7b728d0848adbd"), looks := false }, kinds := [], alts := [], laidByText := true, laidKinds := [.data], laidTests := true, laidLooks := .later }
def RawOnlyUptoCardSaid : Prop := Claim7.holds Tryd.pinned (.plain (OpenSpec.upto rawOnlySpec)) rawOnlyUptoCard

/-- THE SECOND FORM's CARD OF 'stoplinelaw03.RawShort'. -/
def rawShortUptoCard : Claim7 := { stood := { row := rawShortUptoRow, standIns := [], harness := (true, "5eecd67b3b5ecf949c5fda304417cb88ccc193e89ec00081ed7b728d0848adbd"), looks := false }, kinds := [], alts := [], laidByText := true, laidKinds := [.data], laidTests := true, laidLooks := .later }
def RawShortUptoCardSaid : Prop := Claim7.holds Tryd.pinned (.plain (OpenSpec.upto rawShortSpec)) rawShortUptoCard
end Rows
end Go.Proofs.YtpngkgfanaebcaaDoor
