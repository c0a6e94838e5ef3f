/-
  DERIVED. GIVEN WITH THE SEED: THE CARDS: each row of YtnihjchhbggkiaaDoorRows.lean that lists a variable, with what it lists TIED to the program's text (the seventh form; the later family's looks); each row that meets fmt, with fmt's text TOLD by the authors' own Lean function (tested against real Go, not proved from fmt's source: count such statements apart). THE CARD IS WHAT COUNTS. Prove the row's statement (the work); the ties are given (YtnihjchhbggkiaaDoorTie.lean); close each card by the builder's one call (the guide's Derived/Test/ToyasCard.lean, 'card_holds'). Laid BY PROGRAM, IN A SANDBOX (cutbox-door.mjs). By AI agents, Wed Nov 11 2026. No macro, syntax, notation, axiom, sorry.
-/
import Derived.Test.YtnihjchhbggkiaaDoorRows
import GoSem.ClaimSeven
namespace Go.Proofs.YtnihjchhbggkiaaDoor
namespace Rows

/-- THE TIED CARD OF 'guidepostlaw01.WireNumbers'. -/
def wireNumbersCard : Claim7 := { stood := { row := wireNumbersRow, standIns := [], harness := (true, "dd66362ce8b5f09f9cd594b5c63c5e7d366d470563df9d2075603dbc4758f1f6"), looks := true }, kinds := [], alts := [], laidByText := true, laidKinds := [.data, .data, .data, .sentinel, .sentinel], laidTests := true, laidLooks := .later }
def WireNumbersCardSaid : Prop := Claim7.holds Tryd.pinned (.plain (OpenSpec.ofChange wireNumbersSpec)) wireNumbersCard

/-- THE TIED CARD OF 'guidepostlaw01.WireParts'. -/
def wirePartsCard : Claim7 := { stood := { row := wirePartsRow, standIns := [], harness := (true, "dd66362ce8b5f09f9cd594b5c63c5e7d366d470563df9d2075603dbc4758f1f6"), looks := true }, kinds := [], alts := [], laidByText := true, laidKinds := [.data, .data, .data, .sentinel, .sentinel], laidTests := true, laidLooks := .later }
def WirePartsCardSaid : Prop := Claim7.holds Tryd.pinned (.plain (OpenSpec.ofChange wirePartsSpec)) wirePartsCard

/-- THE TIED CARD OF 'guidepostlaw01.WireHex'. -/
def wireHexCard : Claim7 := { stood := { row := wireHexRow, standIns := [], harness := (true, "dd66362ce8b5f09f9cd594b5c63c5e7d366d470563df9d2075603dbc4758f1f6"), looks := true }, kinds := [], alts := [], laidByText := true, laidKinds := [.data, .data, .data, .sentinel, .sentinel], laidTests := true, laidLooks := .later }
def WireHexCardSaid : Prop := Claim7.holds Tryd.pinned (.plain (OpenSpec.ofChange wireHexSpec)) wireHexCard

/-- THE TIED CARD OF 'guidepostlaw01.WireAddrs'. -/
def wireAddrsCard : Claim7 := { stood := { row := wireAddrsRow, standIns := [], harness := (true, "dd66362ce8b5f09f9cd594b5c63c5e7d366d470563df9d2075603dbc4758f1f6"), looks := true }, kinds := [], alts := [], laidByText := true, laidKinds := [.data, .data, .data, .sentinel, .sentinel], laidTests := true, laidLooks := .later }
def WireAddrsCardSaid : Prop := Claim7.holds Tryd.pinned (.plain (OpenSpec.ofChange wireAddrsSpec)) wireAddrsCard

/-- THE TIED CARD OF 'guidepostlaw01.WirePrefixes'. -/
def wirePrefixesCard : Claim7 := { stood := { row := wirePrefixesRow, standIns := [], harness := (true, "dd66362ce8b5f09f9cd594b5c63c5e7d366d470563df9d2075603dbc4758f1f6"), looks := true }, kinds := [], alts := [], laidByText := true, laidKinds := [.data, .data, .data, .sentinel, .sentinel], laidTests := true, laidLooks := .later }
def WirePrefixesCardSaid : Prop := Claim7.holds Tryd.pinned (.plain (OpenSpec.ofChange wirePrefixesSpec)) wirePrefixesCard

/-- THE TIED CARD OF 'guidepostlaw01.WireBack'. -/
def wireBackCard : Claim7 := { stood := { row := wireBackRow, standIns := [], harness := (true, "dd66362ce8b5f09f9cd594b5c63c5e7d366d470563df9d2075603dbc4758f1f6"), looks := true }, kinds := [], alts := [], laidByText := true, laidKinds := [.data, .data, .data, .sentinel, .sentinel], laidTests := true, laidLooks := .later }
def WireBackCardSaid : Prop := Claim7.holds Tryd.pinned (.plain (OpenSpec.ofChange wireBackSpec)) wireBackCard

/-- THE SECOND FORM's CARD OF 'guidepostlaw01.WireNumbers'. -/
def wireNumbersUptoCard : Claim7 := { stood := { row := wireNumbersUptoRow, standIns := [], harness := (true, "dd66362ce8b5f09f9cd594b5c63c5e7d366d470563df9d2075603dbc4758f1f6"), looks := true }, kinds := [], alts := [], laidByText := true, laidKinds := [.data, .data, .data, .sentinel, .sentinel], laidTests := true, laidLooks := .later }
def WireNumbersUptoCardSaid : Prop := Claim7.holds Tryd.pinned (.plain (OpenSpec.upto wireNumbersSpec)) wireNumbersUptoCard

/-- THE SECOND FORM's CARD OF 'guidepostlaw01.WireParts'. -/
def wirePartsUptoCard : Claim7 := { stood := { row := wirePartsUptoRow, standIns := [], harness := (true, "dd66362ce8b5f09f9cd594b5c63c5e7d366d470563df9d2075603dbc4758f1f6"), looks := true }, kinds := [], alts := [], laidByText := true, laidKinds := [.data, .data, .data, .sentinel, .sentinel], laidTests := true, laidLooks := .later }
def WirePartsUptoCardSaid : Prop := Claim7.holds Tryd.pinned (.plain (OpenSpec.upto wirePartsSpec)) wirePartsUptoCard

/-- THE SECOND FORM's CARD OF 'guidepostlaw01.WireHex'. -/
def wireHexUptoCard : Claim7 := { stood := { row := wireHexUptoRow, standIns := [], harness := (true, "dd66362ce8b5f09f9cd594b5c63c5e7d366d470563df9d2075603dbc4758f1f6"), looks := true }, kinds := [], alts := [], laidByText := true, laidKinds := [.data, .data, .data, .sentinel, .sentinel], laidTests := true, laidLooks := .later }
def WireHexUptoCardSaid : Prop := Claim7.holds Tryd.pinned (.plain (OpenSpec.upto wireHexSpec)) wireHexUptoCard

/-- THE SECOND FORM's CARD OF 'guidepostlaw01.WireAddrs'. -/
def wireAddrsUptoCard : Claim7 := { stood := { row := wireAddrsUptoRow, standIns := [], harness := (true, "dd66362ce8b5f09f9cd594b5c63c5e7d366d470563df9d2075603dbc4758f1f6"), looks := true }, kinds := [], alts := [], laidByText := true, laidKinds := [.data, .data, .data, .sentinel, .sentinel], laidTests := true, laidLooks := .later }
def WireAddrsUptoCardSaid : Prop := Claim7.holds Tryd.pinned (.plain (OpenSpec.upto wireAddrsSpec)) wireAddrsUptoCard

/-- THE SECOND FORM's CARD OF 'guidepostlaw01.WirePrefixes'. -/
def wirePrefixesUptoCard : Claim7 := { stood := { row := wirePrefixesUptoRow, standIns := [], harness := (true, "dd66362ce8b5f09f9cd594b5c63c5e7d366d470563df9d2075603dbc4758f1f6"), looks := true }, kinds := [], alts := [], laidByText := true, laidKinds := [.data, .data, .data, .sentinel, .sentinel], laidTests := true, laidLooks := .later }
def WirePrefixesUptoCardSaid : Prop := Claim7.holds Tryd.pinned (.plain (OpenSpec.upto wirePrefixesSpec)) wirePrefixesUptoCard

/-- THE SECOND FORM's CARD OF 'guidepostlaw01.WireBack'. -/
def wireBackUptoCard : Claim7 := { stood := { row := wireBackUptoRow, standIns := [], harness := (true, "dd66362ce8b5f09f9cd594b5c63c5e7d366d470563df9d2075603dbc4758f1f6"), looks := true }, kinds := [], alts := [], laidByText := true, laidKinds := [.data, .data, .data, .sentinel, .sentinel], laidTests := true, laidLooks := .later }
def WireBackUptoCardSaid : Prop := Claim7.holds Tryd.pinned (.plain (OpenSpec.upto wireBackSpec)) wireBackUptoCard
end Rows
end Go.Proofs.YtnihjchhbggkiaaDoor
