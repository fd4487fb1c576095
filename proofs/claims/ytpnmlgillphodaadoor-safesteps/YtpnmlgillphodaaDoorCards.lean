/-
  DERIVED. GIVEN WITH THE SEED: THE CARDS: each row of YtpnmlgillphodaaDoorRows.lean that lists a variable, with what it lists TIED to the program's text (the seventh form; the later family's looks); each row that meets fmt, with fmt's text TOLD by the authors' own Lean function (tested against real Go, not proved from fmt's source: count such statements apart). THE CARD IS WHAT COUNTS. Prove the row's statement (the work); the ties are given (YtpnmlgillphodaaDoorTie.lean); close each card by the builder's one call (the guide's Derived/Test/ToyasCard.lean, 'card_holds'). Laid BY PROGRAM, IN A SANDBOX (cutbox-door.mjs). By AI agents, Wed Nov 11 2026. No macro, syntax, notation, axiom, sorry.
-/
import Derived.Test.YtpnmlgillphodaaDoorRows
import GoSem.ClaimSeven
namespace Go.Proofs.YtpnmlgillphodaaDoor
namespace Rows

/-- THE TIED CARD OF 'stoplinelaw08.SafeNames'. -/
def safeNamesCard : Claim7 := { stood := { row := safeNamesRow, standIns := [], harness := (true, "14c48881d9b4cab0062ff86acc63a8665f3eb41e427beba0cec1a9ec99e5afd0"), looks := false }, kinds := [], alts := [], laidByText := true, laidKinds := [.data], laidTests := true, laidLooks := .later }
def SafeNamesCardSaid : Prop := Claim7.holds Tryd.pinned (.plain (OpenSpec.ofChange safeNamesSpec)) safeNamesCard

/-- THE TIED CARD OF 'stoplinelaw08.SafeSteps'. -/
def safeStepsCard : Claim7 := { stood := { row := safeStepsRow, standIns := [], harness := (true, "14c48881d9b4cab0062ff86acc63a8665f3eb41e427beba0cec1a9ec99e5afd0"), looks := false }, kinds := [], alts := [], laidByText := true, laidKinds := [.data], laidTests := true, laidLooks := .later }
def SafeStepsCardSaid : Prop := Claim7.holds Tryd.pinned (.plain (OpenSpec.ofChange safeStepsSpec)) safeStepsCard

/-- THE TIED CARD OF 'stoplinelaw08.SafeTraces'. -/
def safeTracesCard : Claim7 := { stood := { row := safeTracesRow, standIns := [], harness := (true, "14c48881d9b4cab0062ff86acc63a8665f3eb41e427beba0cec1a9ec99e5afd0"), looks := false }, kinds := [], alts := [], laidByText := true, laidKinds := [.data], laidTests := true, laidLooks := .later }
def SafeTracesCardSaid : Prop := Claim7.holds Tryd.pinned (.plain (OpenSpec.ofChange safeTracesSpec)) safeTracesCard

/-- THE TIED CARD OF 'stoplinelaw08.SafeMeans'. -/
def safeMeansCard : Claim7 := { stood := { row := safeMeansRow, standIns := [], harness := (true, "14c48881d9b4cab0062ff86acc63a8665f3eb41e427beba0cec1a9ec99e5afd0"), looks := false }, kinds := [], alts := [], laidByText := true, laidKinds := [.data], laidTests := true, laidLooks := .later }
def SafeMeansCardSaid : Prop := Claim7.holds Tryd.pinned (.plain (OpenSpec.ofChange safeMeansSpec)) safeMeansCard

/-- THE TIED CARD OF 'stoplinelaw08.SafeBegins'. -/
def safeBeginsCard : Claim7 := { stood := { row := safeBeginsRow, standIns := [], harness := (true, "14c48881d9b4cab0062ff86acc63a8665f3eb41e427beba0cec1a9ec99e5afd0"), looks := false }, kinds := [], alts := [], laidByText := true, laidKinds := [.data], laidTests := true, laidLooks := .later }
def SafeBeginsCardSaid : Prop := Claim7.holds Tryd.pinned (.plain (OpenSpec.ofChange safeBeginsSpec)) safeBeginsCard

/-- THE SECOND FORM's CARD OF 'stoplinelaw08.SafeNames'. -/
def safeNamesUptoCard : Claim7 := { stood := { row := safeNamesUptoRow, standIns := [], harness := (true, "14c48881d9b4cab0062ff86acc63a8665f3eb41e427beba0cec1a9ec99e5afd0"), looks := false }, kinds := [], alts := [], laidByText := true, laidKinds := [.data], laidTests := true, laidLooks := .later }
def SafeNamesUptoCardSaid : Prop := Claim7.holds Tryd.pinned (.plain (OpenSpec.upto safeNamesSpec)) safeNamesUptoCard

/-- THE SECOND FORM's CARD OF 'stoplinelaw08.SafeSteps'. -/
def safeStepsUptoCard : Claim7 := { stood := { row := safeStepsUptoRow, standIns := [], harness := (true, "14c48881d9b4cab0062ff86acc63a8665f3eb41e427beba0cec1a9ec99e5afd0"), looks := false }, kinds := [], alts := [], laidByText := true, laidKinds := [.data], laidTests := true, laidLooks := .later }
def SafeStepsUptoCardSaid : Prop := Claim7.holds Tryd.pinned (.plain (OpenSpec.upto safeStepsSpec)) safeStepsUptoCard

/-- THE SECOND FORM's CARD OF 'stoplinelaw08.SafeTraces'. -/
def safeTracesUptoCard : Claim7 := { stood := { row := safeTracesUptoRow, standIns := [], harness := (true, "14c48881d9b4cab0062ff86acc63a8665f3eb41e427beba0cec1a9ec99e5afd0"), looks := false }, kinds := [], alts := [], laidByText := true, laidKinds := [.data], laidTests := true, laidLooks := .later }
def SafeTracesUptoCardSaid : Prop := Claim7.holds Tryd.pinned (.plain (OpenSpec.upto safeTracesSpec)) safeTracesUptoCard

/-- THE SECOND FORM's CARD OF 'stoplinelaw08.SafeMeans'. -/
def safeMeansUptoCard : Claim7 := { stood := { row := safeMeansUptoRow, standIns := [], harness := (true, "14c48881d9b4cab0062ff86acc63a8665f3eb41e427beba0cec1a9ec99e5afd0"), looks := false }, kinds := [], alts := [], laidByText := true, laidKinds := [.data], laidTests := true, laidLooks := .later }
def SafeMeansUptoCardSaid : Prop := Claim7.holds Tryd.pinned (.plain (OpenSpec.upto safeMeansSpec)) safeMeansUptoCard

/-- THE SECOND FORM's CARD OF 'stoplinelaw08.SafeBegins'. -/
def safeBeginsUptoCard : Claim7 := { stood := { row := safeBeginsUptoRow, standIns := [], harness := (true, "14c48881d9b4cab0062ff86acc63a8665f3eb41e427beba0cec1a9ec99e5afd0"), looks := false }, kinds := [], alts := [], laidByText := true, laidKinds := [.data], laidTests := true, laidLooks := .later }
def SafeBeginsUptoCardSaid : Prop := Claim7.holds Tryd.pinned (.plain (OpenSpec.upto safeBeginsSpec)) safeBeginsUptoCard
end Rows
end Go.Proofs.YtpnmlgillphodaaDoor
