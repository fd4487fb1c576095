/-
  DERIVED. GIVEN WITH THE SEED: THE CARDS: each row of YtchjbagipbmcoaaDoorRows.lean that lists a variable, with what it lists TIED to the program's text (the seventh form; the later family's looks); each row that meets fmt, with fmt's text TOLD by the authors' own Lean function (tested against real Go, not proved from fmt's source: count such statements apart). THE CARD IS WHAT COUNTS. Prove the row's statement (the work); the ties are given (YtchjbagipbmcoaaDoorTie.lean); close each card by the builder's one call (the guide's Derived/Test/ToyasCard.lean, 'card_holds'). Laid BY PROGRAM, IN A SANDBOX (cutbox-door.mjs). By AI agents, Wed Nov 11 2026. No macro, syntax, notation, axiom, sorry.
-/
import Derived.Test.YtchjbagipbmcoaaDoorRows
import GoSem.ClaimSeven
namespace Go.Proofs.YtchjbagipbmcoaaDoor
namespace Rows

/-- THE TIED CARD OF 'stoplinelaw15.TurnNames'. -/
def turnNamesCard : Claim7 := { stood := { row := turnNamesRow, standIns := [], harness := (true, "4618232b1f53dcb51331f653aa0c4db0e218738685d270aa05d591eb2cf034bb"), looks := false }, kinds := [], alts := [], laidByText := true, laidKinds := [.data], laidTests := true, laidLooks := .later }
def TurnNamesCardSaid : Prop := Claim7.holds Tryd.pinned (.plain (OpenSpec.ofChange turnNamesSpec)) turnNamesCard

/-- THE TIED CARD OF 'stoplinelaw15.TurnEnds'. -/
def turnEndsCard : Claim7 := { stood := { row := turnEndsRow, standIns := [], harness := (true, "4618232b1f53dcb51331f653aa0c4db0e218738685d270aa05d591eb2cf034bb"), looks := false }, kinds := [], alts := [], laidByText := true, laidKinds := [.data], laidTests := true, laidLooks := .later }
def TurnEndsCardSaid : Prop := Claim7.holds Tryd.pinned (.plain (OpenSpec.ofChange turnEndsSpec)) turnEndsCard

/-- THE TIED CARD OF 'stoplinelaw15.TurnStays'. -/
def turnStaysCard : Claim7 := { stood := { row := turnStaysRow, standIns := [], harness := (true, "4618232b1f53dcb51331f653aa0c4db0e218738685d270aa05d591eb2cf034bb"), looks := false }, kinds := [], alts := [], laidByText := true, laidKinds := [.data], laidTests := true, laidLooks := .later }
def TurnStaysCardSaid : Prop := Claim7.holds Tryd.pinned (.plain (OpenSpec.ofChange turnStaysSpec)) turnStaysCard

/-- THE SECOND FORM's CARD OF 'stoplinelaw15.TurnNames'. -/
def turnNamesUptoCard : Claim7 := { stood := { row := turnNamesUptoRow, standIns := [], harness := (true, "4618232b1f53dcb51331f653aa0c4db0e218738685d270aa05d591eb2cf034bb"), looks := false }, kinds := [], alts := [], laidByText := true, laidKinds := [.data], laidTests := true, laidLooks := .later }
def TurnNamesUptoCardSaid : Prop := Claim7.holds Tryd.pinned (.plain (OpenSpec.upto turnNamesSpec)) turnNamesUptoCard

/-- THE SECOND FORM's CARD OF 'stoplinelaw15.TurnEnds'. -/
def turnEndsUptoCard : Claim7 := { stood := { row := turnEndsUptoRow, standIns := [], harness := (true, "4618232b1f53dcb51331f653aa0c4db0e218738685d270aa05d591eb2cf034bb"), looks := false }, kinds := [], alts := [], laidByText := true, laidKinds := [.data], laidTests := true, laidLooks := .later }
def TurnEndsUptoCardSaid : Prop := Claim7.holds Tryd.pinned (.plain (OpenSpec.upto turnEndsSpec)) turnEndsUptoCard

/-- THE SECOND FORM's CARD OF 'stoplinelaw15.TurnStays'. -/
def turnStaysUptoCard : Claim7 := { stood := { row := turnStaysUptoRow, standIns := [], harness := (true, "4618232b1f53dcb51331f653aa0c4db0e218738685d270aa05d591eb2cf034bb"), looks := false }, kinds := [], alts := [], laidByText := true, laidKinds := [.data], laidTests := true, laidLooks := .later }
def TurnStaysUptoCardSaid : Prop := Claim7.holds Tryd.pinned (.plain (OpenSpec.upto turnStaysSpec)) turnStaysUptoCard
end Rows
end Go.Proofs.YtchjbagipbmcoaaDoor
