/-
  DERIVED. GIVEN WITH THE SEED: THE CARDS: each row of YtjfajdmifjbblaaDoorRows.lean that lists a variable, with what it lists TIED to the program's text (the seventh form; the later family's looks); each row that meets fmt, with fmt's text TOLD by the authors' own Lean function (tested against real Go, not proved from fmt's source: count such statements apart). THE CARD IS WHAT COUNTS. Prove the row's statement (the work); the ties are given (YtjfajdmifjbblaaDoorTie.lean); close each card by the builder's one call (the guide's Derived/Test/ToyasCard.lean, 'card_holds'). Laid BY PROGRAM, IN A SANDBOX (cutbox-door.mjs). By AI agents, Wed Nov 11 2026. No macro, syntax, notation, axiom, sorry.
-/
import Derived.Test.YtjfajdmifjbblaaDoorRows
import GoSem.ClaimSeven
namespace Go.Proofs.YtjfajdmifjbblaaDoor
namespace Rows

/-- THE TIED CARD OF 'stoplinelaw14.CallNames'. -/
def callNamesCard : Claim7 := { stood := { row := callNamesRow, standIns := [], harness := (true, "25cae5de4446e01d297b16d1a450e7f77271455424ab104eeac11a6920ce6387"), looks := false }, kinds := [], alts := [], laidByText := true, laidKinds := [.data], laidTests := true, laidLooks := .later }
def CallNamesCardSaid : Prop := Claim7.holds Tryd.pinned (.plain (OpenSpec.ofChange callNamesSpec)) callNamesCard

/-- THE TIED CARD OF 'stoplinelaw14.CallTells'. -/
def callTellsCard : Claim7 := { stood := { row := callTellsRow, standIns := [], harness := (true, "25cae5de4446e01d297b16d1a450e7f77271455424ab104eeac11a6920ce6387"), looks := false }, kinds := [], alts := [], laidByText := true, laidKinds := [.data], laidTests := true, laidLooks := .later }
def CallTellsCardSaid : Prop := Claim7.holds Tryd.pinned (.plain (OpenSpec.ofChange callTellsSpec)) callTellsCard

/-- THE TIED CARD OF 'stoplinelaw14.CallKept'. -/
def callKeptCard : Claim7 := { stood := { row := callKeptRow, standIns := [], harness := (true, "25cae5de4446e01d297b16d1a450e7f77271455424ab104eeac11a6920ce6387"), looks := false }, kinds := [], alts := [], laidByText := true, laidKinds := [.data], laidTests := true, laidLooks := .later }
def CallKeptCardSaid : Prop := Claim7.holds Tryd.pinned (.plain (OpenSpec.ofChange callKeptSpec)) callKeptCard

/-- THE TIED CARD OF 'stoplinelaw14.CallRound'. -/
def callRoundCard : Claim7 := { stood := { row := callRoundRow, standIns := [], harness := (true, "25cae5de4446e01d297b16d1a450e7f77271455424ab104eeac11a6920ce6387"), looks := false }, kinds := [], alts := [], laidByText := true, laidKinds := [.data], laidTests := true, laidLooks := .later }
def CallRoundCardSaid : Prop := Claim7.holds Tryd.pinned (.plain (OpenSpec.ofChange callRoundSpec)) callRoundCard

/-- THE TIED CARD OF 'stoplinelaw14.CallNearest'. -/
def callNearestCard : Claim7 := { stood := { row := callNearestRow, standIns := [], harness := (true, "25cae5de4446e01d297b16d1a450e7f77271455424ab104eeac11a6920ce6387"), looks := false }, kinds := [], alts := [], laidByText := true, laidKinds := [.data], laidTests := true, laidLooks := .later }
def CallNearestCardSaid : Prop := Claim7.holds Tryd.pinned (.plain (OpenSpec.ofChange callNearestSpec)) callNearestCard

/-- THE SECOND FORM's CARD OF 'stoplinelaw14.CallNames'. -/
def callNamesUptoCard : Claim7 := { stood := { row := callNamesUptoRow, standIns := [], harness := (true, "25cae5de4446e01d297b16d1a450e7f77271455424ab104eeac11a6920ce6387"), looks := false }, kinds := [], alts := [], laidByText := true, laidKinds := [.data], laidTests := true, laidLooks := .later }
def CallNamesUptoCardSaid : Prop := Claim7.holds Tryd.pinned (.plain (OpenSpec.upto callNamesSpec)) callNamesUptoCard

/-- THE SECOND FORM's CARD OF 'stoplinelaw14.CallTells'. -/
def callTellsUptoCard : Claim7 := { stood := { row := callTellsUptoRow, standIns := [], harness := (true, "25cae5de4446e01d297b16d1a450e7f77271455424ab104eeac11a6920ce6387"), looks := false }, kinds := [], alts := [], laidByText := true, laidKinds := [.data], laidTests := true, laidLooks := .later }
def CallTellsUptoCardSaid : Prop := Claim7.holds Tryd.pinned (.plain (OpenSpec.upto callTellsSpec)) callTellsUptoCard

/-- THE SECOND FORM's CARD OF 'stoplinelaw14.CallKept'. -/
def callKeptUptoCard : Claim7 := { stood := { row := callKeptUptoRow, standIns := [], harness := (true, "25cae5de4446e01d297b16d1a450e7f77271455424ab104eeac11a6920ce6387"), looks := false }, kinds := [], alts := [], laidByText := true, laidKinds := [.data], laidTests := true, laidLooks := .later }
def CallKeptUptoCardSaid : Prop := Claim7.holds Tryd.pinned (.plain (OpenSpec.upto callKeptSpec)) callKeptUptoCard

/-- THE SECOND FORM's CARD OF 'stoplinelaw14.CallRound'. -/
def callRoundUptoCard : Claim7 := { stood := { row := callRoundUptoRow, standIns := [], harness := (true, "25cae5de4446e01d297b16d1a450e7f77271455424ab104eeac11a6920ce6387"), looks := false }, kinds := [], alts := [], laidByText := true, laidKinds := [.data], laidTests := true, laidLooks := .later }
def CallRoundUptoCardSaid : Prop := Claim7.holds Tryd.pinned (.plain (OpenSpec.upto callRoundSpec)) callRoundUptoCard

/-- THE SECOND FORM's CARD OF 'stoplinelaw14.CallNearest'. -/
def callNearestUptoCard : Claim7 := { stood := { row := callNearestUptoRow, standIns := [], harness := (true, "25cae5de4446e01d297b16d1a450e7f77271455424ab104eeac11a6920ce6387"), looks := false }, kinds := [], alts := [], laidByText := true, laidKinds := [.data], laidTests := true, laidLooks := .later }
def CallNearestUptoCardSaid : Prop := Claim7.holds Tryd.pinned (.plain (OpenSpec.upto callNearestSpec)) callNearestUptoCard
end Rows
end Go.Proofs.YtjfajdmifjbblaaDoor
