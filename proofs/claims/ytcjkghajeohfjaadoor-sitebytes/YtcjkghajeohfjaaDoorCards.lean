/-
  DERIVED. GIVEN WITH THE SEED: THE CARDS: each row of YtcjkghajeohfjaaDoorRows.lean that lists a variable, with what it lists TIED to the program's text (the seventh form; the later family's looks); each row that meets fmt, with fmt's text TOLD by the authors' own Lean function (tested against real Go, not proved from fmt's source: count such statements apart). THE CARD IS WHAT COUNTS. Prove the row's statement (the work); the ties are given (YtcjkghajeohfjaaDoorTie.lean); close each card by the builder's one call (the guide's Derived/Test/ToyasCard.lean, 'card_holds'). Laid BY PROGRAM, IN A SANDBOX (cutbox-door.mjs). By AI agents, Wed Nov 11 2026. No macro, syntax, notation, axiom, sorry.
-/
import Derived.Test.YtcjkghajeohfjaaDoorRows
import GoSem.ClaimSeven
namespace Go.Proofs.YtcjkghajeohfjaaDoor
namespace Rows

/-- THE TIED CARD OF 'stoplinelaw05.SiteBytes'. -/
def siteBytesCard : Claim7 := { stood := { row := siteBytesRow, standIns := [], harness := (true, "a7a5b270882ef97e1a18c96ecc0dd9567bb7dca793e678b46ec56053e977d5dd"), looks := false }, kinds := [], alts := [], laidByText := true, laidKinds := [.data, .data], laidTests := true, laidLooks := .later }
def SiteBytesCardSaid : Prop := Claim7.holds Tryd.pinned (.plain (OpenSpec.ofChange siteBytesSpec)) siteBytesCard

/-- THE SECOND FORM's CARD OF 'stoplinelaw05.SiteBytes'. -/
def siteBytesUptoCard : Claim7 := { stood := { row := siteBytesUptoRow, standIns := [], harness := (true, "a7a5b270882ef97e1a18c96ecc0dd9567bb7dca793e678b46ec56053e977d5dd"), looks := false }, kinds := [], alts := [], laidByText := true, laidKinds := [.data, .data], laidTests := true, laidLooks := .later }
def SiteBytesUptoCardSaid : Prop := Claim7.holds Tryd.pinned (.plain (OpenSpec.upto siteBytesSpec)) siteBytesUptoCard
end Rows
end Go.Proofs.YtcjkghajeohfjaaDoor
