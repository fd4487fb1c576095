/-
  DERIVED. GIVEN WITH THE SEED: THE CARDS: each row of YtoahbpdgbiachaaDoorRows.lean that lists a variable, with what it lists TIED to the program's text (the seventh form; the later family's looks); each row that meets fmt, with fmt's text TOLD by the authors' own Lean function (tested against real Go, not proved from fmt's source: count such statements apart). THE CARD IS WHAT COUNTS. Prove the row's statement (the work); the ties are given (YtoahbpdgbiachaaDoorTie.lean); close each card by the builder's one call (the guide's Derived/Test/ToyasCard.lean, 'card_holds'). Laid BY PROGRAM, IN A SANDBOX (cutbox-door.mjs). By AI agents, Wed Nov 11 2026. No macro, syntax, notation, axiom, sorry.
-/
import Derived.Test.YtoahbpdgbiachaaDoorRows
import GoSem.ClaimSeven
namespace Go.Proofs.YtoahbpdgbiachaaDoor
namespace Rows

/-- THE TIED CARD OF 'stoplinelaw06.NetNames'. -/
def netNamesCard : Claim7 := { stood := { row := netNamesRow, standIns := [], harness := (true, "5e8fe8746b537b0a9f8ae87a5c43ae88386db844a4bc693dec416ac36709f923"), looks := false }, kinds := [], alts := [], laidByText := true, laidKinds := [.data, .data], laidTests := true, laidLooks := .later }
def NetNamesCardSaid : Prop := Claim7.holds Tryd.pinned (.plain (OpenSpec.ofChange netNamesSpec)) netNamesCard

/-- THE TIED CARD OF 'stoplinelaw06.NetMay'. -/
def netMayCard : Claim7 := { stood := { row := netMayRow, standIns := [], harness := (true, "5e8fe8746b537b0a9f8ae87a5c43ae88386db844a4bc693dec416ac36709f923"), looks := false }, kinds := [], alts := [], laidByText := true, laidKinds := [.data], laidTests := true, laidLooks := .later }
def NetMayCardSaid : Prop := Claim7.holds Tryd.pinned (.plain (OpenSpec.ofChange netMaySpec)) netMayCard

/-- THE TIED CARD OF 'stoplinelaw06.NetBack'. -/
def netBackCard : Claim7 := { stood := { row := netBackRow, standIns := [], harness := (true, "5e8fe8746b537b0a9f8ae87a5c43ae88386db844a4bc693dec416ac36709f923"), looks := false }, kinds := [], alts := [], laidByText := true, laidKinds := [.data, .data], laidTests := true, laidLooks := .later }
def NetBackCardSaid : Prop := Claim7.holds Tryd.pinned (.plain (OpenSpec.ofChange netBackSpec)) netBackCard

/-- THE TIED CARD OF 'stoplinelaw06.NetParts'. -/
def netPartsCard : Claim7 := { stood := { row := netPartsRow, standIns := [], harness := (true, "5e8fe8746b537b0a9f8ae87a5c43ae88386db844a4bc693dec416ac36709f923"), looks := false }, kinds := [], alts := [], laidByText := true, laidKinds := [.data, .data], laidTests := true, laidLooks := .later }
def NetPartsCardSaid : Prop := Claim7.holds Tryd.pinned (.plain (OpenSpec.ofChange netPartsSpec)) netPartsCard

/-- THE TIED CARD OF 'stoplinelaw06.NetCycles'. -/
def netCyclesCard : Claim7 := { stood := { row := netCyclesRow, standIns := [], harness := (true, "5e8fe8746b537b0a9f8ae87a5c43ae88386db844a4bc693dec416ac36709f923"), looks := false }, kinds := [], alts := [], laidByText := true, laidKinds := [.data, .data], laidTests := true, laidLooks := .later }
def NetCyclesCardSaid : Prop := Claim7.holds Tryd.pinned (.plain (OpenSpec.ofChange netCyclesSpec)) netCyclesCard

/-- THE SECOND FORM's CARD OF 'stoplinelaw06.NetNames'. -/
def netNamesUptoCard : Claim7 := { stood := { row := netNamesUptoRow, standIns := [], harness := (true, "5e8fe8746b537b0a9f8ae87a5c43ae88386db844a4bc693dec416ac36709f923"), looks := false }, kinds := [], alts := [], laidByText := true, laidKinds := [.data, .data], laidTests := true, laidLooks := .later }
def NetNamesUptoCardSaid : Prop := Claim7.holds Tryd.pinned (.plain (OpenSpec.upto netNamesSpec)) netNamesUptoCard

/-- THE SECOND FORM's CARD OF 'stoplinelaw06.NetMay'. -/
def netMayUptoCard : Claim7 := { stood := { row := netMayUptoRow, standIns := [], harness := (true, "5e8fe8746b537b0a9f8ae87a5c43ae88386db844a4bc693dec416ac36709f923"), looks := false }, kinds := [], alts := [], laidByText := true, laidKinds := [.data], laidTests := true, laidLooks := .later }
def NetMayUptoCardSaid : Prop := Claim7.holds Tryd.pinned (.plain (OpenSpec.upto netMaySpec)) netMayUptoCard

/-- THE SECOND FORM's CARD OF 'stoplinelaw06.NetBack'. -/
def netBackUptoCard : Claim7 := { stood := { row := netBackUptoRow, standIns := [], harness := (true, "5e8fe8746b537b0a9f8ae87a5c43ae88386db844a4bc693dec416ac36709f923"), looks := false }, kinds := [], alts := [], laidByText := true, laidKinds := [.data, .data], laidTests := true, laidLooks := .later }
def NetBackUptoCardSaid : Prop := Claim7.holds Tryd.pinned (.plain (OpenSpec.upto netBackSpec)) netBackUptoCard

/-- THE SECOND FORM's CARD OF 'stoplinelaw06.NetParts'. -/
def netPartsUptoCard : Claim7 := { stood := { row := netPartsUptoRow, standIns := [], harness := (true, "5e8fe8746b537b0a9f8ae87a5c43ae88386db844a4bc693dec416ac36709f923"), looks := false }, kinds := [], alts := [], laidByText := true, laidKinds := [.data, .data], laidTests := true, laidLooks := .later }
def NetPartsUptoCardSaid : Prop := Claim7.holds Tryd.pinned (.plain (OpenSpec.upto netPartsSpec)) netPartsUptoCard

/-- THE SECOND FORM's CARD OF 'stoplinelaw06.NetCycles'. -/
def netCyclesUptoCard : Claim7 := { stood := { row := netCyclesUptoRow, standIns := [], harness := (true, "5e8fe8746b537b0a9f8ae87a5c43ae88386db844a4bc693dec416ac36709f923"), looks := false }, kinds := [], alts := [], laidByText := true, laidKinds := [.data, .data], laidTests := true, laidLooks := .later }
def NetCyclesUptoCardSaid : Prop := Claim7.holds Tryd.pinned (.plain (OpenSpec.upto netCyclesSpec)) netCyclesUptoCard
end Rows
end Go.Proofs.YtoahbpdgbiachaaDoor
