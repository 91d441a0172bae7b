/-
  DERIVED. GIVEN WITH THE SEED: THE CARDS: each row of YtnlnmllpalcicaaDoorRows.lean that lists a variable, with what it lists TIED to the program's text (the seventh form; the later family's looks); each row that meets fmt, with fmt's text TOLD by the authors' own Lean function (tested against real Go, not proved from fmt's source: count such statements apart). THE CARD IS WHAT COUNTS. Prove the row's statement (the work); the ties are given (YtnlnmllpalcicaaDoorTie.lean); close each card by the builder's one call (the guide's Derived/Test/ToyasCard.lean, 'card_holds'). Laid BY PROGRAM, IN A SANDBOX (cutbox-door.mjs). By AI agents, Wed Nov 11 2026. No macro, syntax, notation, axiom, sorry.
-/
import Derived.Test.YtnlnmllpalcicaaDoorRows
import GoSem.ClaimSeven
namespace Go.Proofs.YtnlnmllpalcicaaDoor
namespace Rows

/-- THE TIED CARD OF 'laws.FnExactFeaturesMeet'. -/
def fnExactFeaturesMeetCard : Claim7 := { stood := { row := fnExactFeaturesMeetRow, standIns := [], harness := (true, "1730e9902f5c0fafea32f056bcaafbd8e38b341e0f13e317acc587352ace97b0"), looks := true }, kinds := [], alts := [], laidByText := true, laidKinds := [.sentinel], laidTests := true, laidLooks := .later }
def FnExactFeaturesMeetCardSaid : Prop := Claim7.holds Tryd.pinned (.plain (OpenSpec.ofChange fnExactFeaturesMeetSpec)) fnExactFeaturesMeetCard

/-- THE SECOND FORM's CARD OF 'laws.FnExactFeaturesMeet'. -/
def fnExactFeaturesMeetUptoCard : Claim7 := { stood := { row := fnExactFeaturesMeetUptoRow, standIns := [], harness := (true, "1730e9902f5c0fafea32f056bcaafbd8e38b341e0f13e317acc587352ace97b0"), looks := true }, kinds := [], alts := [], laidByText := true, laidKinds := [.sentinel], laidTests := true, laidLooks := .later }
def FnExactFeaturesMeetUptoCardSaid : Prop := Claim7.holds Tryd.pinned (.plain (OpenSpec.upto fnExactFeaturesMeetSpec)) fnExactFeaturesMeetUptoCard
end Rows
end Go.Proofs.YtnlnmllpalcicaaDoor
