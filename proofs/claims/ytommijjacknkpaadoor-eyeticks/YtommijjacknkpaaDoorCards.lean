/-
  DERIVED. GIVEN WITH THE SEED: THE CARDS: each row of YtommijjacknkpaaDoorRows.lean that lists a variable, with what it lists TIED to the program's text (the seventh form; the later family's looks); each row that meets fmt, with fmt's text TOLD by the authors' own Lean function (tested against real Go, not proved from fmt's source: count such statements apart). THE CARD IS WHAT COUNTS. Prove the row's statement (the work); the ties are given (YtommijjacknkpaaDoorTie.lean); close each card by the builder's one call (the guide's Derived/Test/ToyasCard.lean, 'card_holds'). Laid BY PROGRAM, IN A SANDBOX (cutbox-door.mjs). By AI agents, Wed Nov 11 2026. No macro, syntax, notation, axiom, sorry.
-/
import Derived.Test.YtommijjacknkpaaDoorRows
import GoSem.ClaimSeven
namespace Go.Proofs.YtommijjacknkpaaDoor
namespace Rows

/-- THE TIED CARD OF 'stoplinelaw13.EyeNames'. -/
def eyeNamesCard : Claim7 := { stood := { row := eyeNamesRow, standIns := [], harness := (true, "b3701a42fd9871979aa83a01840dfc422c781a4c7d395b8c6d0348500b258933"), looks := false }, kinds := [], alts := [], laidByText := true, laidKinds := [.data], laidTests := true, laidLooks := .later }
def EyeNamesCardSaid : Prop := Claim7.holds Tryd.pinned (.plain (OpenSpec.ofChange eyeNamesSpec)) eyeNamesCard

/-- THE TIED CARD OF 'stoplinelaw13.EyeTicks'. -/
def eyeTicksCard : Claim7 := { stood := { row := eyeTicksRow, standIns := [], harness := (true, "b3701a42fd9871979aa83a01840dfc422c781a4c7d395b8c6d0348500b258933"), looks := false }, kinds := [], alts := [], laidByText := true, laidKinds := [.data], laidTests := true, laidLooks := .later }
def EyeTicksCardSaid : Prop := Claim7.holds Tryd.pinned (.plain (OpenSpec.ofChange eyeTicksSpec)) eyeTicksCard

/-- THE TIED CARD OF 'stoplinelaw13.EyeIll'. -/
def eyeIllCard : Claim7 := { stood := { row := eyeIllRow, standIns := [], harness := (true, "b3701a42fd9871979aa83a01840dfc422c781a4c7d395b8c6d0348500b258933"), looks := false }, kinds := [], alts := [], laidByText := true, laidKinds := [.data], laidTests := true, laidLooks := .later }
def EyeIllCardSaid : Prop := Claim7.holds Tryd.pinned (.plain (OpenSpec.ofChange eyeIllSpec)) eyeIllCard

/-- THE TIED CARD OF 'stoplinelaw13.EyeAll'. -/
def eyeAllCard : Claim7 := { stood := { row := eyeAllRow, standIns := [], harness := (true, "b3701a42fd9871979aa83a01840dfc422c781a4c7d395b8c6d0348500b258933"), looks := false }, kinds := [], alts := [], laidByText := true, laidKinds := [.data], laidTests := true, laidLooks := .later }
def EyeAllCardSaid : Prop := Claim7.holds Tryd.pinned (.plain (OpenSpec.ofChange eyeAllSpec)) eyeAllCard

/-- THE TIED CARD OF 'stoplinelaw13.EyeStays'. -/
def eyeStaysCard : Claim7 := { stood := { row := eyeStaysRow, standIns := [], harness := (true, "b3701a42fd9871979aa83a01840dfc422c781a4c7d395b8c6d0348500b258933"), looks := false }, kinds := [], alts := [], laidByText := true, laidKinds := [.data], laidTests := true, laidLooks := .later }
def EyeStaysCardSaid : Prop := Claim7.holds Tryd.pinned (.plain (OpenSpec.ofChange eyeStaysSpec)) eyeStaysCard

/-- THE SECOND FORM's CARD OF 'stoplinelaw13.EyeNames'. -/
def eyeNamesUptoCard : Claim7 := { stood := { row := eyeNamesUptoRow, standIns := [], harness := (true, "b3701a42fd9871979aa83a01840dfc422c781a4c7d395b8c6d0348500b258933"), looks := false }, kinds := [], alts := [], laidByText := true, laidKinds := [.data], laidTests := true, laidLooks := .later }
def EyeNamesUptoCardSaid : Prop := Claim7.holds Tryd.pinned (.plain (OpenSpec.upto eyeNamesSpec)) eyeNamesUptoCard

/-- THE SECOND FORM's CARD OF 'stoplinelaw13.EyeTicks'. -/
def eyeTicksUptoCard : Claim7 := { stood := { row := eyeTicksUptoRow, standIns := [], harness := (true, "b3701a42fd9871979aa83a01840dfc422c781a4c7d395b8c6d0348500b258933"), looks := false }, kinds := [], alts := [], laidByText := true, laidKinds := [.data], laidTests := true, laidLooks := .later }
def EyeTicksUptoCardSaid : Prop := Claim7.holds Tryd.pinned (.plain (OpenSpec.upto eyeTicksSpec)) eyeTicksUptoCard

/-- THE SECOND FORM's CARD OF 'stoplinelaw13.EyeIll'. -/
def eyeIllUptoCard : Claim7 := { stood := { row := eyeIllUptoRow, standIns := [], harness := (true, "b3701a42fd9871979aa83a01840dfc422c781a4c7d395b8c6d0348500b258933"), looks := false }, kinds := [], alts := [], laidByText := true, laidKinds := [.data], laidTests := true, laidLooks := .later }
def EyeIllUptoCardSaid : Prop := Claim7.holds Tryd.pinned (.plain (OpenSpec.upto eyeIllSpec)) eyeIllUptoCard

/-- THE SECOND FORM's CARD OF 'stoplinelaw13.EyeAll'. -/
def eyeAllUptoCard : Claim7 := { stood := { row := eyeAllUptoRow, standIns := [], harness := (true, "b3701a42fd9871979aa83a01840dfc422c781a4c7d395b8c6d0348500b258933"), looks := false }, kinds := [], alts := [], laidByText := true, laidKinds := [.data], laidTests := true, laidLooks := .later }
def EyeAllUptoCardSaid : Prop := Claim7.holds Tryd.pinned (.plain (OpenSpec.upto eyeAllSpec)) eyeAllUptoCard

/-- THE SECOND FORM's CARD OF 'stoplinelaw13.EyeStays'. -/
def eyeStaysUptoCard : Claim7 := { stood := { row := eyeStaysUptoRow, standIns := [], harness := (true, "b3701a42fd9871979aa83a01840dfc422c781a4c7d395b8c6d0348500b258933"), looks := false }, kinds := [], alts := [], laidByText := true, laidKinds := [.data], laidTests := true, laidLooks := .later }
def EyeStaysUptoCardSaid : Prop := Claim7.holds Tryd.pinned (.plain (OpenSpec.upto eyeStaysSpec)) eyeStaysUptoCard
end Rows
end Go.Proofs.YtommijjacknkpaaDoor
