/-
  DERIVED. GIVEN WITH THE SEED: THE CARDS: each row of YtpbmngbigdaklaaDoorRows.lean that lists a variable, with what it lists TIED to the program's text (the seventh form; the later family's looks); each row that meets fmt, with fmt's text TOLD by the authors' own Lean function (tested against real Go, not proved from fmt's source: count such statements apart). THE CARD IS WHAT COUNTS. Prove the row's statement (the work); the ties are given (YtpbmngbigdaklaaDoorTie.lean); close each card by the builder's one call (the guide's Derived/Test/ToyasCard.lean, 'card_holds'). Laid BY PROGRAM, IN A SANDBOX (cutbox-door.mjs). By AI agents, Wed Nov 11 2026. No macro, syntax, notation, axiom, sorry.
-/
import Derived.Test.YtpbmngbigdaklaaDoorRows
import GoSem.ClaimSeven
namespace Go.Proofs.YtpbmngbigdaklaaDoor
namespace Rows

/-- THE TIED CARD OF 'laws.FnSimplified'. -/
def fnSimplifiedCard : Claim7 := { stood := { row := fnSimplifiedRow, standIns := [], harness := (true, "f9a3822cea048bdab47f6b4598cb5dc05333cce5a8d99a014b0ddc21cc242c30"), looks := true }, kinds := [], alts := [], laidByText := true, laidKinds := [.sentinel], laidTests := true, laidLooks := .later }
def FnSimplifiedCardSaid : Prop := Claim7.holds Tryd.pinned (.plain (OpenSpec.ofChange fnSimplifiedSpec)) fnSimplifiedCard

/-- THE TIED CARD OF 'laws.FnExactSimplifyLine'. -/
def fnExactSimplifyLineCard : Claim7 := { stood := { row := fnExactSimplifyLineRow, standIns := [], harness := (true, "f9a3822cea048bdab47f6b4598cb5dc05333cce5a8d99a014b0ddc21cc242c30"), looks := true }, kinds := [], alts := [], laidByText := true, laidKinds := [.sentinel], laidTests := true, laidLooks := .later }
def FnExactSimplifyLineCardSaid : Prop := Claim7.holds Tryd.pinned (.plain (OpenSpec.ofChange fnExactSimplifyLineSpec)) fnExactSimplifyLineCard

/-- THE TIED CARD OF 'laws.FnExactCountLeftOut'. -/
def fnExactCountLeftOutCard : Claim7 := { stood := { row := fnExactCountLeftOutRow, standIns := [], harness := (true, "f9a3822cea048bdab47f6b4598cb5dc05333cce5a8d99a014b0ddc21cc242c30"), looks := true }, kinds := [], alts := [], laidByText := true, laidKinds := [.sentinel], laidTests := true, laidLooks := .later }
def FnExactCountLeftOutCardSaid : Prop := Claim7.holds Tryd.pinned (.plain (OpenSpec.ofChange fnExactCountLeftOutSpec)) fnExactCountLeftOutCard

/-- THE SECOND FORM's CARD OF 'laws.FnSimplified'. -/
def fnSimplifiedUptoCard : Claim7 := { stood := { row := fnSimplifiedUptoRow, standIns := [], harness := (true, "f9a3822cea048bdab47f6b4598cb5dc05333cce5a8d99a014b0ddc21cc242c30"), looks := true }, kinds := [], alts := [], laidByText := true, laidKinds := [.sentinel], laidTests := true, laidLooks := .later }
def FnSimplifiedUptoCardSaid : Prop := Claim7.holds Tryd.pinned (.plain (OpenSpec.upto fnSimplifiedSpec)) fnSimplifiedUptoCard

/-- THE SECOND FORM's CARD OF 'laws.FnExactSimplifyLine'. -/
def fnExactSimplifyLineUptoCard : Claim7 := { stood := { row := fnExactSimplifyLineUptoRow, standIns := [], harness := (true, "f9a3822cea048bdab47f6b4598cb5dc05333cce5a8d99a014b0ddc21cc242c30"), looks := true }, kinds := [], alts := [], laidByText := true, laidKinds := [.sentinel], laidTests := true, laidLooks := .later }
def FnExactSimplifyLineUptoCardSaid : Prop := Claim7.holds Tryd.pinned (.plain (OpenSpec.upto fnExactSimplifyLineSpec)) fnExactSimplifyLineUptoCard

/-- THE SECOND FORM's CARD OF 'laws.FnExactCountLeftOut'. -/
def fnExactCountLeftOutUptoCard : Claim7 := { stood := { row := fnExactCountLeftOutUptoRow, standIns := [], harness := (true, "f9a3822cea048bdab47f6b4598cb5dc05333cce5a8d99a014b0ddc21cc242c30"), looks := true }, kinds := [], alts := [], laidByText := true, laidKinds := [.sentinel], laidTests := true, laidLooks := .later }
def FnExactCountLeftOutUptoCardSaid : Prop := Claim7.holds Tryd.pinned (.plain (OpenSpec.upto fnExactCountLeftOutSpec)) fnExactCountLeftOutUptoCard
end Rows
end Go.Proofs.YtpbmngbigdaklaaDoor
