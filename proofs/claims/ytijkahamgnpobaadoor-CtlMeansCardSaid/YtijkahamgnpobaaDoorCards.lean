/-
  DERIVED. GIVEN WITH THE SEED: THE CARDS: each row of YtijkahamgnpobaaDoorRows.lean that lists a variable, with what it lists TIED to the program's text (the seventh form; the later family's looks); each row that meets fmt, with fmt's text TOLD by the authors' own Lean function (tested against real Go, not proved from fmt's source: count such statements apart). THE CARD IS WHAT COUNTS. Prove the row's statement (the work); the ties are given (YtijkahamgnpobaaDoorTie.lean); close each card by the builder's one call (the guide's Derived/Test/ToyasCard.lean, 'card_holds'). Laid BY PROGRAM, IN A SANDBOX (cutbox-door.mjs). By AI agents, Wed Nov 11 2026. No macro, syntax, notation, axiom, sorry.
-/
import Derived.Test.YtijkahamgnpobaaDoorRows
import GoSem.ClaimSeven
namespace Go.Proofs.YtijkahamgnpobaaDoor
namespace Rows

/-- THE TIED CARD OF 'guidepostlaw05.CtlBytes'. -/
def ctlBytesCard : Claim7 := { stood := { row := ctlBytesRow, standIns := [], harness := (true, "0096d2fdec59aefec8ebbbfdb590edcdf0d0c1263d3aff52626132f615d966d9"), looks := true }, kinds := [], alts := [], laidByText := true, laidKinds := [.data, .data, .data, .sentinel, .sentinel], laidTests := true, laidLooks := .later }
def CtlBytesCardSaid : Prop := Claim7.holds Tryd.pinned (.plain (OpenSpec.ofChange ctlBytesSpec)) ctlBytesCard

/-- THE TIED CARD OF 'guidepostlaw05.CtlLists'. -/
def ctlListsCard : Claim7 := { stood := { row := ctlListsRow, standIns := [], harness := (true, "0096d2fdec59aefec8ebbbfdb590edcdf0d0c1263d3aff52626132f615d966d9"), looks := true }, kinds := [], alts := [], laidByText := true, laidKinds := [.data, .data, .data, .sentinel, .sentinel], laidTests := true, laidLooks := .later }
def CtlListsCardSaid : Prop := Claim7.holds Tryd.pinned (.plain (OpenSpec.ofChange ctlListsSpec)) ctlListsCard

/-- THE TIED CARD OF 'guidepostlaw05.CtlTexts'. -/
def ctlTextsCard : Claim7 := { stood := { row := ctlTextsRow, standIns := [], harness := (true, "0096d2fdec59aefec8ebbbfdb590edcdf0d0c1263d3aff52626132f615d966d9"), looks := true }, kinds := [], alts := [], laidByText := true, laidKinds := [.data, .data, .data, .sentinel, .sentinel], laidTests := true, laidLooks := .later }
def CtlTextsCardSaid : Prop := Claim7.holds Tryd.pinned (.plain (OpenSpec.ofChange ctlTextsSpec)) ctlTextsCard

/-- THE TIED CARD OF 'guidepostlaw05.CtlMeans'. -/
def ctlMeansCard : Claim7 := { stood := { row := ctlMeansRow, standIns := [], harness := (true, "0096d2fdec59aefec8ebbbfdb590edcdf0d0c1263d3aff52626132f615d966d9"), looks := true }, kinds := [], alts := [], laidByText := true, laidKinds := [.data, .data, .data, .sentinel, .sentinel], laidTests := true, laidLooks := .later }
def CtlMeansCardSaid : Prop := Claim7.holds Tryd.pinned (.plain (OpenSpec.ofChange ctlMeansSpec)) ctlMeansCard

/-- THE TIED CARD OF 'guidepostlaw05.CtlFarther'. -/
def ctlFartherCard : Claim7 := { stood := { row := ctlFartherRow, standIns := [], harness := (true, "0096d2fdec59aefec8ebbbfdb590edcdf0d0c1263d3aff52626132f615d966d9"), looks := true }, kinds := [], alts := [], laidByText := true, laidKinds := [.data, .data, .data, .sentinel, .sentinel], laidTests := true, laidLooks := .later }
def CtlFartherCardSaid : Prop := Claim7.holds Tryd.pinned (.plain (OpenSpec.ofChange ctlFartherSpec)) ctlFartherCard

/-- THE SECOND FORM's CARD OF 'guidepostlaw05.CtlBytes'. -/
def ctlBytesUptoCard : Claim7 := { stood := { row := ctlBytesUptoRow, standIns := [], harness := (true, "0096d2fdec59aefec8ebbbfdb590edcdf0d0c1263d3aff52626132f615d966d9"), looks := true }, kinds := [], alts := [], laidByText := true, laidKinds := [.data, .data, .data, .sentinel, .sentinel], laidTests := true, laidLooks := .later }
def CtlBytesUptoCardSaid : Prop := Claim7.holds Tryd.pinned (.plain (OpenSpec.upto ctlBytesSpec)) ctlBytesUptoCard

/-- THE SECOND FORM's CARD OF 'guidepostlaw05.CtlLists'. -/
def ctlListsUptoCard : Claim7 := { stood := { row := ctlListsUptoRow, standIns := [], harness := (true, "0096d2fdec59aefec8ebbbfdb590edcdf0d0c1263d3aff52626132f615d966d9"), looks := true }, kinds := [], alts := [], laidByText := true, laidKinds := [.data, .data, .data, .sentinel, .sentinel], laidTests := true, laidLooks := .later }
def CtlListsUptoCardSaid : Prop := Claim7.holds Tryd.pinned (.plain (OpenSpec.upto ctlListsSpec)) ctlListsUptoCard

/-- THE SECOND FORM's CARD OF 'guidepostlaw05.CtlTexts'. -/
def ctlTextsUptoCard : Claim7 := { stood := { row := ctlTextsUptoRow, standIns := [], harness := (true, "0096d2fdec59aefec8ebbbfdb590edcdf0d0c1263d3aff52626132f615d966d9"), looks := true }, kinds := [], alts := [], laidByText := true, laidKinds := [.data, .data, .data, .sentinel, .sentinel], laidTests := true, laidLooks := .later }
def CtlTextsUptoCardSaid : Prop := Claim7.holds Tryd.pinned (.plain (OpenSpec.upto ctlTextsSpec)) ctlTextsUptoCard

/-- THE SECOND FORM's CARD OF 'guidepostlaw05.CtlMeans'. -/
def ctlMeansUptoCard : Claim7 := { stood := { row := ctlMeansUptoRow, standIns := [], harness := (true, "0096d2fdec59aefec8ebbbfdb590edcdf0d0c1263d3aff52626132f615d966d9"), looks := true }, kinds := [], alts := [], laidByText := true, laidKinds := [.data, .data, .data, .sentinel, .sentinel], laidTests := true, laidLooks := .later }
def CtlMeansUptoCardSaid : Prop := Claim7.holds Tryd.pinned (.plain (OpenSpec.upto ctlMeansSpec)) ctlMeansUptoCard

/-- THE SECOND FORM's CARD OF 'guidepostlaw05.CtlFarther'. -/
def ctlFartherUptoCard : Claim7 := { stood := { row := ctlFartherUptoRow, standIns := [], harness := (true, "0096d2fdec59aefec8ebbbfdb590edcdf0d0c1263d3aff52626132f615d966d9"), looks := true }, kinds := [], alts := [], laidByText := true, laidKinds := [.data, .data, .data, .sentinel, .sentinel], laidTests := true, laidLooks := .later }
def CtlFartherUptoCardSaid : Prop := Claim7.holds Tryd.pinned (.plain (OpenSpec.upto ctlFartherSpec)) ctlFartherUptoCard
end Rows
end Go.Proofs.YtijkahamgnpobaaDoor
