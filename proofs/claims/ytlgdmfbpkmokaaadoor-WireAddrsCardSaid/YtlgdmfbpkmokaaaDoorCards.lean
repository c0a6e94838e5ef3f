/-
  DERIVED. GIVEN WITH THE SEED: THE CARDS: each row of YtlgdmfbpkmokaaaDoorRows.lean that lists a variable, with what it lists TIED to the program's text (the seventh form; the later family's looks); each row that meets fmt, with fmt's text TOLD by the authors' own Lean function (tested against real Go, not proved from fmt's source: count such statements apart). THE CARD IS WHAT COUNTS. Prove the row's statement (the work); the ties are given (YtlgdmfbpkmokaaaDoorTie.lean); close each card by the builder's one call (the guide's Derived/Test/ToyasCard.lean, 'card_holds'). Laid BY PROGRAM, IN A SANDBOX (cutbox-door.mjs). By AI agents, Wed Nov 11 2026. No macro, syntax, notation, axiom, sorry.
-/
import Derived.Test.YtlgdmfbpkmokaaaDoorRows
import GoSem.ClaimSeven
namespace Go.Proofs.YtlgdmfbpkmokaaaDoor
namespace Rows

/-- THE TIED CARD OF 'guidepostlaw01.WireParts'. -/
def wirePartsCard : Claim7 := { stood := { row := wirePartsRow, standIns := [], harness := (true, "38d39ba210888a30c5a665c3940d868d67f1543fe7085e2d339b7b63fd4a60ab"), looks := true }, kinds := [], alts := [], laidByText := true, laidKinds := [.data, .data, .data, .sentinel, .sentinel], laidTests := true, laidLooks := .later }
def WirePartsCardSaid : Prop := Claim7.holds Tryd.pinned (.plain (OpenSpec.ofChange wirePartsSpec)) wirePartsCard

/-- THE TIED CARD OF 'guidepostlaw01.WireAddrs'. -/
def wireAddrsCard : Claim7 := { stood := { row := wireAddrsRow, standIns := [], harness := (true, "38d39ba210888a30c5a665c3940d868d67f1543fe7085e2d339b7b63fd4a60ab"), looks := true }, kinds := [], alts := [], laidByText := true, laidKinds := [.data, .data, .data, .sentinel, .sentinel], laidTests := true, laidLooks := .later }
def WireAddrsCardSaid : Prop := Claim7.holds Tryd.pinned (.plain (OpenSpec.ofChange wireAddrsSpec)) wireAddrsCard

/-- THE TIED CARD OF 'guidepostlaw01.WireSplits'. -/
def wireSplitsCard : Claim7 := { stood := { row := wireSplitsRow, standIns := [], harness := (true, "38d39ba210888a30c5a665c3940d868d67f1543fe7085e2d339b7b63fd4a60ab"), looks := true }, kinds := [], alts := [], laidByText := true, laidKinds := [.data, .data, .data, .sentinel, .sentinel], laidTests := true, laidLooks := .later }
def WireSplitsCardSaid : Prop := Claim7.holds Tryd.pinned (.plain (OpenSpec.ofChange wireSplitsSpec)) wireSplitsCard

/-- THE SECOND FORM's CARD OF 'guidepostlaw01.WireParts'. -/
def wirePartsUptoCard : Claim7 := { stood := { row := wirePartsUptoRow, standIns := [], harness := (true, "38d39ba210888a30c5a665c3940d868d67f1543fe7085e2d339b7b63fd4a60ab"), looks := true }, kinds := [], alts := [], laidByText := true, laidKinds := [.data, .data, .data, .sentinel, .sentinel], laidTests := true, laidLooks := .later }
def WirePartsUptoCardSaid : Prop := Claim7.holds Tryd.pinned (.plain (OpenSpec.upto wirePartsSpec)) wirePartsUptoCard

/-- THE SECOND FORM's CARD OF 'guidepostlaw01.WireAddrs'. -/
def wireAddrsUptoCard : Claim7 := { stood := { row := wireAddrsUptoRow, standIns := [], harness := (true, "38d39ba210888a30c5a665c3940d868d67f1543fe7085e2d339b7b63fd4a60ab"), looks := true }, kinds := [], alts := [], laidByText := true, laidKinds := [.data, .data, .data, .sentinel, .sentinel], laidTests := true, laidLooks := .later }
def WireAddrsUptoCardSaid : Prop := Claim7.holds Tryd.pinned (.plain (OpenSpec.upto wireAddrsSpec)) wireAddrsUptoCard

/-- THE SECOND FORM's CARD OF 'guidepostlaw01.WireSplits'. -/
def wireSplitsUptoCard : Claim7 := { stood := { row := wireSplitsUptoRow, standIns := [], harness := (true, "38d39ba210888a30c5a665c3940d868d67f1543fe7085e2d339b7b63fd4a60ab"), looks := true }, kinds := [], alts := [], laidByText := true, laidKinds := [.data, .data, .data, .sentinel, .sentinel], laidTests := true, laidLooks := .later }
def WireSplitsUptoCardSaid : Prop := Claim7.holds Tryd.pinned (.plain (OpenSpec.upto wireSplitsSpec)) wireSplitsUptoCard
end Rows
end Go.Proofs.YtlgdmfbpkmokaaaDoor
