/-
  DERIVED. GIVEN WITH THE SEED: THE CARDS: each row of YtbnjaaegbmhopaaDoorRows.lean that lists a variable, with what it lists TIED to the program's text (the seventh form; the later family's looks); each row that meets fmt, with fmt's text TOLD by the authors' own Lean function (tested against real Go, not proved from fmt's source: count such statements apart). THE CARD IS WHAT COUNTS. Prove the row's statement (the work); the ties are given (YtbnjaaegbmhopaaDoorTie.lean); close each card by the builder's one call (the guide's Derived/Test/ToyasCard.lean, 'card_holds'). Laid BY PROGRAM, IN A SANDBOX (cutbox-door.mjs). By AI agents, Wed Nov 11 2026. No macro, syntax, notation, axiom, sorry.
-/
import Derived.Test.YtbnjaaegbmhopaaDoorRows
import GoSem.ClaimSeven
namespace Go.Proofs.YtbnjaaegbmhopaaDoor
namespace Rows

/-- THE TIED CARD OF 'laws.FnExactIsRing'. -/
def fnExactIsRingCard : Claim7 := { stood := { row := fnExactIsRingRow, standIns := [], harness := (true, "0c1df87fee66ea7df00567f92dbc08ccfacd06d53b622fdf9cf6929ab31f35f8"), looks := true }, kinds := [], alts := [], laidByText := true, laidKinds := [.sentinel], laidTests := true, laidLooks := .later }
def FnExactIsRingCardSaid : Prop := Claim7.holds Tryd.pinned (.plain (OpenSpec.ofChange fnExactIsRingSpec)) fnExactIsRingCard

/-- THE TIED CARD OF 'laws.FnExactTwiceArea'. -/
def fnExactTwiceAreaCard : Claim7 := { stood := { row := fnExactTwiceAreaRow, standIns := [], harness := (true, "0c1df87fee66ea7df00567f92dbc08ccfacd06d53b622fdf9cf6929ab31f35f8"), looks := true }, kinds := [], alts := [], laidByText := true, laidKinds := [.sentinel], laidTests := true, laidLooks := .later }
def FnExactTwiceAreaCardSaid : Prop := Claim7.holds Tryd.pinned (.plain (OpenSpec.ofChange fnExactTwiceAreaSpec)) fnExactTwiceAreaCard

/-- THE TIED CARD OF 'laws.FnExactIsInside'. -/
def fnExactIsInsideCard : Claim7 := { stood := { row := fnExactIsInsideRow, standIns := [], harness := (true, "0c1df87fee66ea7df00567f92dbc08ccfacd06d53b622fdf9cf6929ab31f35f8"), looks := true }, kinds := [], alts := [], laidByText := true, laidKinds := [.sentinel], laidTests := true, laidLooks := .later }
def FnExactIsInsideCardSaid : Prop := Claim7.holds Tryd.pinned (.plain (OpenSpec.ofChange fnExactIsInsideSpec)) fnExactIsInsideCard

/-- THE TIED CARD OF 'laws.FnExactRingSegments'. -/
def fnExactRingSegmentsCard : Claim7 := { stood := { row := fnExactRingSegmentsRow, standIns := [], harness := (true, "0c1df87fee66ea7df00567f92dbc08ccfacd06d53b622fdf9cf6929ab31f35f8"), looks := true }, kinds := [], alts := [], laidByText := true, laidKinds := [.sentinel], laidTests := true, laidLooks := .later }
def FnExactRingSegmentsCardSaid : Prop := Claim7.holds Tryd.pinned (.plain (OpenSpec.ofChange fnExactRingSegmentsSpec)) fnExactRingSegmentsCard

/-- THE TIED CARD OF 'laws.FnExactFeaturesMeet'. -/
def fnExactFeaturesMeetCard : Claim7 := { stood := { row := fnExactFeaturesMeetRow, standIns := [], harness := (true, "0c1df87fee66ea7df00567f92dbc08ccfacd06d53b622fdf9cf6929ab31f35f8"), looks := true }, kinds := [], alts := [], laidByText := true, laidKinds := [.sentinel], laidTests := true, laidLooks := .later }
def FnExactFeaturesMeetCardSaid : Prop := Claim7.holds Tryd.pinned (.plain (OpenSpec.ofChange fnExactFeaturesMeetSpec)) fnExactFeaturesMeetCard

/-- THE SECOND FORM's CARD OF 'laws.FnExactIsRing'. -/
def fnExactIsRingUptoCard : Claim7 := { stood := { row := fnExactIsRingUptoRow, standIns := [], harness := (true, "0c1df87fee66ea7df00567f92dbc08ccfacd06d53b622fdf9cf6929ab31f35f8"), looks := true }, kinds := [], alts := [], laidByText := true, laidKinds := [.sentinel], laidTests := true, laidLooks := .later }
def FnExactIsRingUptoCardSaid : Prop := Claim7.holds Tryd.pinned (.plain (OpenSpec.upto fnExactIsRingSpec)) fnExactIsRingUptoCard

/-- THE SECOND FORM's CARD OF 'laws.FnExactTwiceArea'. -/
def fnExactTwiceAreaUptoCard : Claim7 := { stood := { row := fnExactTwiceAreaUptoRow, standIns := [], harness := (true, "0c1df87fee66ea7df00567f92dbc08ccfacd06d53b622fdf9cf6929ab31f35f8"), looks := true }, kinds := [], alts := [], laidByText := true, laidKinds := [.sentinel], laidTests := true, laidLooks := .later }
def FnExactTwiceAreaUptoCardSaid : Prop := Claim7.holds Tryd.pinned (.plain (OpenSpec.upto fnExactTwiceAreaSpec)) fnExactTwiceAreaUptoCard

/-- THE SECOND FORM's CARD OF 'laws.FnExactIsInside'. -/
def fnExactIsInsideUptoCard : Claim7 := { stood := { row := fnExactIsInsideUptoRow, standIns := [], harness := (true, "0c1df87fee66ea7df00567f92dbc08ccfacd06d53b622fdf9cf6929ab31f35f8"), looks := true }, kinds := [], alts := [], laidByText := true, laidKinds := [.sentinel], laidTests := true, laidLooks := .later }
def FnExactIsInsideUptoCardSaid : Prop := Claim7.holds Tryd.pinned (.plain (OpenSpec.upto fnExactIsInsideSpec)) fnExactIsInsideUptoCard

/-- THE SECOND FORM's CARD OF 'laws.FnExactRingSegments'. -/
def fnExactRingSegmentsUptoCard : Claim7 := { stood := { row := fnExactRingSegmentsUptoRow, standIns := [], harness := (true, "0c1df87fee66ea7df00567f92dbc08ccfacd06d53b622fdf9cf6929ab31f35f8"), looks := true }, kinds := [], alts := [], laidByText := true, laidKinds := [.sentinel], laidTests := true, laidLooks := .later }
def FnExactRingSegmentsUptoCardSaid : Prop := Claim7.holds Tryd.pinned (.plain (OpenSpec.upto fnExactRingSegmentsSpec)) fnExactRingSegmentsUptoCard

/-- THE SECOND FORM's CARD OF 'laws.FnExactFeaturesMeet'. -/
def fnExactFeaturesMeetUptoCard : Claim7 := { stood := { row := fnExactFeaturesMeetUptoRow, standIns := [], harness := (true, "0c1df87fee66ea7df00567f92dbc08ccfacd06d53b622fdf9cf6929ab31f35f8"), looks := true }, kinds := [], alts := [], laidByText := true, laidKinds := [.sentinel], laidTests := true, laidLooks := .later }
def FnExactFeaturesMeetUptoCardSaid : Prop := Claim7.holds Tryd.pinned (.plain (OpenSpec.upto fnExactFeaturesMeetSpec)) fnExactFeaturesMeetUptoCard
end Rows
end Go.Proofs.YtbnjaaegbmhopaaDoor
