/-
  DERIVED. GIVEN WITH THE SEED: THE CARDS: each row of YtpajefkfnhibnaaDoorRows.lean that lists a variable, with what it lists TIED to the program's text (the seventh form; the later family's looks); each row that meets fmt, with fmt's text TOLD by the authors' own Lean function (tested against real Go, not proved from fmt's source: count such statements apart). THE CARD IS WHAT COUNTS. Prove the row's statement (the work); the ties are given (YtpajefkfnhibnaaDoorTie.lean); close each card by the builder's one call (the guide's Derived/Test/ToyasCard.lean, 'card_holds'). Laid BY PROGRAM, IN A SANDBOX (cutbox-door.mjs). By AI agents, Wed Nov 11 2026. No macro, syntax, notation, axiom, sorry.
-/
import Derived.Test.YtpajefkfnhibnaaDoorRows
import GoSem.ClaimSeven
namespace Go.Proofs.YtpajefkfnhibnaaDoor
namespace Rows

/-- THE TIED CARD OF 'stoplinelaw05.SiteNames'. -/
def siteNamesCard : Claim7 := { stood := { row := siteNamesRow, standIns := [], harness := (true, "b22f443a3ccade30d773444571dcac644dc960880c1f39eeaf8636b6b25a2b21"), looks := false }, kinds := [], alts := [], laidByText := true, laidKinds := [.data, .data], laidTests := true, laidLooks := .later }
def SiteNamesCardSaid : Prop := Claim7.holds Tryd.pinned (.plain (OpenSpec.ofChange siteNamesSpec)) siteNamesCard

/-- THE TIED CARD OF 'stoplinelaw05.SiteMay'. -/
def siteMayCard : Claim7 := { stood := { row := siteMayRow, standIns := [], harness := (true, "b22f443a3ccade30d773444571dcac644dc960880c1f39eeaf8636b6b25a2b21"), looks := false }, kinds := [], alts := [], laidByText := true, laidKinds := [.data], laidTests := true, laidLooks := .later }
def SiteMayCardSaid : Prop := Claim7.holds Tryd.pinned (.plain (OpenSpec.ofChange siteMaySpec)) siteMayCard

/-- THE TIED CARD OF 'stoplinelaw05.SiteBytes'. -/
def siteBytesCard : Claim7 := { stood := { row := siteBytesRow, standIns := [], harness := (true, "b22f443a3ccade30d773444571dcac644dc960880c1f39eeaf8636b6b25a2b21"), looks := false }, kinds := [], alts := [], laidByText := true, laidKinds := [.data, .data], laidTests := true, laidLooks := .later }
def SiteBytesCardSaid : Prop := Claim7.holds Tryd.pinned (.plain (OpenSpec.ofChange siteBytesSpec)) siteBytesCard

/-- THE TIED CARD OF 'stoplinelaw05.SiteBack'. -/
def siteBackCard : Claim7 := { stood := { row := siteBackRow, standIns := [], harness := (true, "b22f443a3ccade30d773444571dcac644dc960880c1f39eeaf8636b6b25a2b21"), looks := false }, kinds := [], alts := [], laidByText := true, laidKinds := [.data, .data], laidTests := true, laidLooks := .later }
def SiteBackCardSaid : Prop := Claim7.holds Tryd.pinned (.plain (OpenSpec.ofChange siteBackSpec)) siteBackCard

/-- THE TIED CARD OF 'stoplinelaw05.SitePlans'. -/
def sitePlansCard : Claim7 := { stood := { row := sitePlansRow, standIns := [], harness := (true, "b22f443a3ccade30d773444571dcac644dc960880c1f39eeaf8636b6b25a2b21"), looks := false }, kinds := [], alts := [], laidByText := true, laidKinds := [.data, .data], laidTests := true, laidLooks := .later }
def SitePlansCardSaid : Prop := Claim7.holds Tryd.pinned (.plain (OpenSpec.ofChange sitePlansSpec)) sitePlansCard

/-- THE TIED CARD OF 'stoplinelaw05.SiteApart'. -/
def siteApartCard : Claim7 := { stood := { row := siteApartRow, standIns := [], harness := (true, "b22f443a3ccade30d773444571dcac644dc960880c1f39eeaf8636b6b25a2b21"), looks := false }, kinds := [], alts := [], laidByText := true, laidKinds := [.data, .data], laidTests := true, laidLooks := .later }
def SiteApartCardSaid : Prop := Claim7.holds Tryd.pinned (.plain (OpenSpec.ofChange siteApartSpec)) siteApartCard

/-- THE SECOND FORM's CARD OF 'stoplinelaw05.SiteNames'. -/
def siteNamesUptoCard : Claim7 := { stood := { row := siteNamesUptoRow, standIns := [], harness := (true, "b22f443a3ccade30d773444571dcac644dc960880c1f39eeaf8636b6b25a2b21"), looks := false }, kinds := [], alts := [], laidByText := true, laidKinds := [.data, .data], laidTests := true, laidLooks := .later }
def SiteNamesUptoCardSaid : Prop := Claim7.holds Tryd.pinned (.plain (OpenSpec.upto siteNamesSpec)) siteNamesUptoCard

/-- THE SECOND FORM's CARD OF 'stoplinelaw05.SiteMay'. -/
def siteMayUptoCard : Claim7 := { stood := { row := siteMayUptoRow, standIns := [], harness := (true, "b22f443a3ccade30d773444571dcac644dc960880c1f39eeaf8636b6b25a2b21"), looks := false }, kinds := [], alts := [], laidByText := true, laidKinds := [.data], laidTests := true, laidLooks := .later }
def SiteMayUptoCardSaid : Prop := Claim7.holds Tryd.pinned (.plain (OpenSpec.upto siteMaySpec)) siteMayUptoCard

/-- THE SECOND FORM's CARD OF 'stoplinelaw05.SiteBytes'. -/
def siteBytesUptoCard : Claim7 := { stood := { row := siteBytesUptoRow, standIns := [], harness := (true, "b22f443a3ccade30d773444571dcac644dc960880c1f39eeaf8636b6b25a2b21"), looks := false }, kinds := [], alts := [], laidByText := true, laidKinds := [.data, .data], laidTests := true, laidLooks := .later }
def SiteBytesUptoCardSaid : Prop := Claim7.holds Tryd.pinned (.plain (OpenSpec.upto siteBytesSpec)) siteBytesUptoCard

/-- THE SECOND FORM's CARD OF 'stoplinelaw05.SiteBack'. -/
def siteBackUptoCard : Claim7 := { stood := { row := siteBackUptoRow, standIns := [], harness := (true, "b22f443a3ccade30d773444571dcac644dc960880c1f39eeaf8636b6b25a2b21"), looks := false }, kinds := [], alts := [], laidByText := true, laidKinds := [.data, .data], laidTests := true, laidLooks := .later }
def SiteBackUptoCardSaid : Prop := Claim7.holds Tryd.pinned (.plain (OpenSpec.upto siteBackSpec)) siteBackUptoCard

/-- THE SECOND FORM's CARD OF 'stoplinelaw05.SitePlans'. -/
def sitePlansUptoCard : Claim7 := { stood := { row := sitePlansUptoRow, standIns := [], harness := (true, "b22f443a3ccade30d773444571dcac644dc960880c1f39eeaf8636b6b25a2b21"), looks := false }, kinds := [], alts := [], laidByText := true, laidKinds := [.data, .data], laidTests := true, laidLooks := .later }
def SitePlansUptoCardSaid : Prop := Claim7.holds Tryd.pinned (.plain (OpenSpec.upto sitePlansSpec)) sitePlansUptoCard

/-- THE SECOND FORM's CARD OF 'stoplinelaw05.SiteApart'. -/
def siteApartUptoCard : Claim7 := { stood := { row := siteApartUptoRow, standIns := [], harness := (true, "b22f443a3ccade30d773444571dcac644dc960880c1f39eeaf8636b6b25a2b21"), looks := false }, kinds := [], alts := [], laidByText := true, laidKinds := [.data, .data], laidTests := true, laidLooks := .later }
def SiteApartUptoCardSaid : Prop := Claim7.holds Tryd.pinned (.plain (OpenSpec.upto siteApartSpec)) siteApartUptoCard
end Rows
end Go.Proofs.YtpajefkfnhibnaaDoor
