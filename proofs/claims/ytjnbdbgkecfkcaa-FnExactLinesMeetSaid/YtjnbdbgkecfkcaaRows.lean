/-
  No cell of these rows narrows 'for every input' (looked for: loops, veiled, ifaces, maps, wideKeys, modest, calm, conditions, laid).
  DERIVED. THE GIVEN ROWS OF THIS SEAT. 15 by the template 'for every input the law returns true; each argument reads behind the call as it read before'; 0 by the template 'total and deterministic' (their statements: YtjnbdbgkecfkcaaTotals.lean).
  GIVEN WITH THE SEED: the statements are not yours to turn. If you find one false, say at which input.
  Laid BY PROGRAM, IN A SANDBOX (cutbox-rows.mjs): the forced cells as the released guide's own fill.sh prints them over the translation 598697bf1a11afd5… (all of the seat's roots in one cut). By AI agents, Wed Nov 11 2026. No macro, syntax, notation, axiom, sorry.
-/
import Derived.Test.YtjnbdbgkecfkcaaChecked
import GoSem.Claim
import GoSem.ClaimJoined
import GoSem.ClaimMapViews
import Derived.JoinedTies
import Derived.KernelRfl
namespace Go.Proofs.Ytjnbdbgkecfkcaa
/- THE CELL 'sum', in the pinned program and in every row, IS THE sha256 OF THE DUMP (.gsa) THAT YtjnbdbgkecfkcaaProg.lean LOADS. Nothing in Lean hashes anything: it is a label: what it is worth is what the hold of that sum in a sandbox is worth. -/
noncomputable def Try.pinned : Pinned := { name := "ytjnbdbgkecfkcaa", sum := "598697bf1a11afd58bd4bf60d8421b6d4a6cd7859fb5eefc34a865e006d29bfc", checked := Try.checked }
namespace Rows
def none {H : Type} : Left H := { results := [], args := [] }

/-- 'laws.FnSegments': WHATEVER THE INPUT: true; the input reads as it did. -/
def fnSegmentsSpec : ChangeSpec := { name := "fnSegments", fn := fun _ => fun
  | [d] => { results := [.lit (.bool true)], args := [d] }
  | _ => none }
def fnSegmentsRow : OpenClaim := { program := "ytjnbdbgkecfkcaa", sum := "598697bf1a11afd58bd4bf60d8421b6d4a6cd7859fb5eefc34a865e006d29bfc", func := "loop.example/g03005/laws.FnSegments", spec := "fnSegments", apart := false }
def FnSegmentsSaid : Prop := fnSegmentsRow.holds Try.pinned (OpenSpec.ofChange fnSegmentsSpec)

/-- ITS FALSE NEIGHBOUR: 'it returns false'. Refute it at one input. -/
def fnSegmentsWrong : ChangeSpec := { name := "fnSegments", fn := fun _ => fun
  | [d] => { results := [.lit (.bool false)], args := [d] }
  | _ => none }
def FnSegmentsWrongFalsely : Prop := fnSegmentsRow.holds Try.pinned (OpenSpec.ofChange fnSegmentsWrong)

/-- 'laws.FnLines': WHATEVER THE INPUT: true; the input reads as it did. -/
def fnLinesSpec : ChangeSpec := { name := "fnLines", fn := fun _ => fun
  | [d] => { results := [.lit (.bool true)], args := [d] }
  | _ => none }
def fnLinesRow : OpenClaim := { program := "ytjnbdbgkecfkcaa", sum := "598697bf1a11afd58bd4bf60d8421b6d4a6cd7859fb5eefc34a865e006d29bfc", func := "loop.example/g03005/laws.FnLines", spec := "fnLines", unfollowed := true, recurses := true, apart := false }
def FnLinesSaid : Prop := fnLinesRow.holds Try.pinned (OpenSpec.ofChange fnLinesSpec)

/-- ITS FALSE NEIGHBOUR: 'it returns false'. Refute it at one input. -/
def fnLinesWrong : ChangeSpec := { name := "fnLines", fn := fun _ => fun
  | [d] => { results := [.lit (.bool false)], args := [d] }
  | _ => none }
def FnLinesWrongFalsely : Prop := fnLinesRow.holds Try.pinned (OpenSpec.ofChange fnLinesWrong)

/-- 'laws.FnBoxes': WHATEVER THE INPUT: true; the input reads as it did. -/
def fnBoxesSpec : ChangeSpec := { name := "fnBoxes", fn := fun _ => fun
  | [d] => { results := [.lit (.bool true)], args := [d] }
  | _ => none }
def fnBoxesRow : OpenClaim := { program := "ytjnbdbgkecfkcaa", sum := "598697bf1a11afd58bd4bf60d8421b6d4a6cd7859fb5eefc34a865e006d29bfc", func := "loop.example/g03005/laws.FnBoxes", spec := "fnBoxes", apart := false }
def FnBoxesSaid : Prop := fnBoxesRow.holds Try.pinned (OpenSpec.ofChange fnBoxesSpec)

/-- ITS FALSE NEIGHBOUR: 'it returns false'. Refute it at one input. -/
def fnBoxesWrong : ChangeSpec := { name := "fnBoxes", fn := fun _ => fun
  | [d] => { results := [.lit (.bool false)], args := [d] }
  | _ => none }
def FnBoxesWrongFalsely : Prop := fnBoxesRow.holds Try.pinned (OpenSpec.ofChange fnBoxesWrong)

/-- 'laws.FnExactIsSegment': WHATEVER THE INPUT: true; the input reads as it did. -/
def fnExactIsSegmentSpec : ChangeSpec := { name := "fnExactIsSegment", fn := fun _ => fun
  | [d] => { results := [.lit (.bool true)], args := [d] }
  | _ => none }
def fnExactIsSegmentRow : OpenClaim := { program := "ytjnbdbgkecfkcaa", sum := "598697bf1a11afd58bd4bf60d8421b6d4a6cd7859fb5eefc34a865e006d29bfc", func := "loop.example/g03005/laws.FnExactIsSegment", spec := "fnExactIsSegment", apart := false }
def FnExactIsSegmentSaid : Prop := fnExactIsSegmentRow.holds Try.pinned (OpenSpec.ofChange fnExactIsSegmentSpec)

/-- ITS FALSE NEIGHBOUR: 'it returns false'. Refute it at one input. -/
def fnExactIsSegmentWrong : ChangeSpec := { name := "fnExactIsSegment", fn := fun _ => fun
  | [d] => { results := [.lit (.bool false)], args := [d] }
  | _ => none }
def FnExactIsSegmentWrongFalsely : Prop := fnExactIsSegmentRow.holds Try.pinned (OpenSpec.ofChange fnExactIsSegmentWrong)

/-- 'laws.FnExactIsOn': WHATEVER THE INPUT: true; the input reads as it did. -/
def fnExactIsOnSpec : ChangeSpec := { name := "fnExactIsOn", fn := fun _ => fun
  | [d1, d2] => { results := [.lit (.bool true)], args := [d1, d2] }
  | _ => none }
def fnExactIsOnRow : OpenClaim := { program := "ytjnbdbgkecfkcaa", sum := "598697bf1a11afd58bd4bf60d8421b6d4a6cd7859fb5eefc34a865e006d29bfc", func := "loop.example/g03005/laws.FnExactIsOn", spec := "fnExactIsOn", apart := false }
def FnExactIsOnSaid : Prop := fnExactIsOnRow.holds Try.pinned (OpenSpec.ofChange fnExactIsOnSpec)

/-- ITS FALSE NEIGHBOUR: 'it returns false'. Refute it at one input. -/
def fnExactIsOnWrong : ChangeSpec := { name := "fnExactIsOn", fn := fun _ => fun
  | [d1, d2] => { results := [.lit (.bool false)], args := [d1, d2] }
  | _ => none }
def FnExactIsOnWrongFalsely : Prop := fnExactIsOnRow.holds Try.pinned (OpenSpec.ofChange fnExactIsOnWrong)

/-- 'laws.FnExactHowMeet': WHATEVER THE INPUT: true; the input reads as it did. -/
def fnExactHowMeetSpec : ChangeSpec := { name := "fnExactHowMeet", fn := fun _ => fun
  | [d1, d2] => { results := [.lit (.bool true)], args := [d1, d2] }
  | _ => none }
def fnExactHowMeetRow : OpenClaim := { program := "ytjnbdbgkecfkcaa", sum := "598697bf1a11afd58bd4bf60d8421b6d4a6cd7859fb5eefc34a865e006d29bfc", func := "loop.example/g03005/laws.FnExactHowMeet", spec := "fnExactHowMeet", apart := false }
def FnExactHowMeetSaid : Prop := fnExactHowMeetRow.holds Try.pinned (OpenSpec.ofChange fnExactHowMeetSpec)

/-- ITS FALSE NEIGHBOUR: 'it returns false'. Refute it at one input. -/
def fnExactHowMeetWrong : ChangeSpec := { name := "fnExactHowMeet", fn := fun _ => fun
  | [d1, d2] => { results := [.lit (.bool false)], args := [d1, d2] }
  | _ => none }
def FnExactHowMeetWrongFalsely : Prop := fnExactHowMeetRow.holds Try.pinned (OpenSpec.ofChange fnExactHowMeetWrong)

/-- 'laws.FnExactIsBetween': WHATEVER THE INPUT: true; the input reads as it did. -/
def fnExactIsBetweenSpec : ChangeSpec := { name := "fnExactIsBetween", fn := fun _ => fun
  | [d1, d2] => { results := [.lit (.bool true)], args := [d1, d2] }
  | _ => none }
def fnExactIsBetweenRow : OpenClaim := { program := "ytjnbdbgkecfkcaa", sum := "598697bf1a11afd58bd4bf60d8421b6d4a6cd7859fb5eefc34a865e006d29bfc", func := "loop.example/g03005/laws.FnExactIsBetween", spec := "fnExactIsBetween", apart := false }
def FnExactIsBetweenSaid : Prop := fnExactIsBetweenRow.holds Try.pinned (OpenSpec.ofChange fnExactIsBetweenSpec)

/-- ITS FALSE NEIGHBOUR: 'it returns false'. Refute it at one input. -/
def fnExactIsBetweenWrong : ChangeSpec := { name := "fnExactIsBetween", fn := fun _ => fun
  | [d1, d2] => { results := [.lit (.bool false)], args := [d1, d2] }
  | _ => none }
def FnExactIsBetweenWrongFalsely : Prop := fnExactIsBetweenRow.holds Try.pinned (OpenSpec.ofChange fnExactIsBetweenWrong)

/-- 'laws.FnExactIsLine': WHATEVER THE INPUT: true; the input reads as it did. -/
def fnExactIsLineSpec : ChangeSpec := { name := "fnExactIsLine", fn := fun _ => fun
  | [d] => { results := [.lit (.bool true)], args := [d] }
  | _ => none }
def fnExactIsLineRow : OpenClaim := { program := "ytjnbdbgkecfkcaa", sum := "598697bf1a11afd58bd4bf60d8421b6d4a6cd7859fb5eefc34a865e006d29bfc", func := "loop.example/g03005/laws.FnExactIsLine", spec := "fnExactIsLine", unfollowed := true, recurses := true, apart := false }
def FnExactIsLineSaid : Prop := fnExactIsLineRow.holds Try.pinned (OpenSpec.ofChange fnExactIsLineSpec)

/-- ITS FALSE NEIGHBOUR: 'it returns false'. Refute it at one input. -/
def fnExactIsLineWrong : ChangeSpec := { name := "fnExactIsLine", fn := fun _ => fun
  | [d] => { results := [.lit (.bool false)], args := [d] }
  | _ => none }
def FnExactIsLineWrongFalsely : Prop := fnExactIsLineRow.holds Try.pinned (OpenSpec.ofChange fnExactIsLineWrong)

/-- 'laws.FnExactSegmentsOf': WHATEVER THE INPUT: true; the input reads as it did. -/
def fnExactSegmentsOfSpec : ChangeSpec := { name := "fnExactSegmentsOf", fn := fun _ => fun
  | [d] => { results := [.lit (.bool true)], args := [d] }
  | _ => none }
def fnExactSegmentsOfRow : OpenClaim := { program := "ytjnbdbgkecfkcaa", sum := "598697bf1a11afd58bd4bf60d8421b6d4a6cd7859fb5eefc34a865e006d29bfc", func := "loop.example/g03005/laws.FnExactSegmentsOf", spec := "fnExactSegmentsOf", unfollowed := true, recurses := true, apart := false }
def FnExactSegmentsOfSaid : Prop := fnExactSegmentsOfRow.holds Try.pinned (OpenSpec.ofChange fnExactSegmentsOfSpec)

/-- ITS FALSE NEIGHBOUR: 'it returns false'. Refute it at one input. -/
def fnExactSegmentsOfWrong : ChangeSpec := { name := "fnExactSegmentsOf", fn := fun _ => fun
  | [d] => { results := [.lit (.bool false)], args := [d] }
  | _ => none }
def FnExactSegmentsOfWrongFalsely : Prop := fnExactSegmentsOfRow.holds Try.pinned (OpenSpec.ofChange fnExactSegmentsOfWrong)

/-- 'laws.FnExactIsSimple': WHATEVER THE INPUT: true; the input reads as it did. -/
def fnExactIsSimpleSpec : ChangeSpec := { name := "fnExactIsSimple", fn := fun _ => fun
  | [d] => { results := [.lit (.bool true)], args := [d] }
  | _ => none }
def fnExactIsSimpleRow : OpenClaim := { program := "ytjnbdbgkecfkcaa", sum := "598697bf1a11afd58bd4bf60d8421b6d4a6cd7859fb5eefc34a865e006d29bfc", func := "loop.example/g03005/laws.FnExactIsSimple", spec := "fnExactIsSimple", unfollowed := true, recurses := true, apart := false }
def FnExactIsSimpleSaid : Prop := fnExactIsSimpleRow.holds Try.pinned (OpenSpec.ofChange fnExactIsSimpleSpec)

/-- ITS FALSE NEIGHBOUR: 'it returns false'. Refute it at one input. -/
def fnExactIsSimpleWrong : ChangeSpec := { name := "fnExactIsSimple", fn := fun _ => fun
  | [d] => { results := [.lit (.bool false)], args := [d] }
  | _ => none }
def FnExactIsSimpleWrongFalsely : Prop := fnExactIsSimpleRow.holds Try.pinned (OpenSpec.ofChange fnExactIsSimpleWrong)

/-- 'laws.FnExactLineSteps': WHATEVER THE INPUT: true; the input reads as it did. -/
def fnExactLineStepsSpec : ChangeSpec := { name := "fnExactLineSteps", fn := fun _ => fun
  | [d] => { results := [.lit (.bool true)], args := [d] }
  | _ => none }
def fnExactLineStepsRow : OpenClaim := { program := "ytjnbdbgkecfkcaa", sum := "598697bf1a11afd58bd4bf60d8421b6d4a6cd7859fb5eefc34a865e006d29bfc", func := "loop.example/g03005/laws.FnExactLineSteps", spec := "fnExactLineSteps", unfollowed := true, recurses := true, apart := false }
def FnExactLineStepsSaid : Prop := fnExactLineStepsRow.holds Try.pinned (OpenSpec.ofChange fnExactLineStepsSpec)

/-- ITS FALSE NEIGHBOUR: 'it returns false'. Refute it at one input. -/
def fnExactLineStepsWrong : ChangeSpec := { name := "fnExactLineSteps", fn := fun _ => fun
  | [d] => { results := [.lit (.bool false)], args := [d] }
  | _ => none }
def FnExactLineStepsWrongFalsely : Prop := fnExactLineStepsRow.holds Try.pinned (OpenSpec.ofChange fnExactLineStepsWrong)

/-- 'laws.FnExactLinesMeet': WHATEVER THE INPUT: true; the input reads as it did. -/
def fnExactLinesMeetSpec : ChangeSpec := { name := "fnExactLinesMeet", fn := fun _ => fun
  | [d1, d2] => { results := [.lit (.bool true)], args := [d1, d2] }
  | _ => none }
def fnExactLinesMeetRow : OpenClaim := { program := "ytjnbdbgkecfkcaa", sum := "598697bf1a11afd58bd4bf60d8421b6d4a6cd7859fb5eefc34a865e006d29bfc", func := "loop.example/g03005/laws.FnExactLinesMeet", spec := "fnExactLinesMeet", unfollowed := true, recurses := true, apart := false }
def FnExactLinesMeetSaid : Prop := fnExactLinesMeetRow.holds Try.pinned (OpenSpec.ofChange fnExactLinesMeetSpec)

/-- ITS FALSE NEIGHBOUR: 'it returns false'. Refute it at one input. -/
def fnExactLinesMeetWrong : ChangeSpec := { name := "fnExactLinesMeet", fn := fun _ => fun
  | [d1, d2] => { results := [.lit (.bool false)], args := [d1, d2] }
  | _ => none }
def FnExactLinesMeetWrongFalsely : Prop := fnExactLinesMeetRow.holds Try.pinned (OpenSpec.ofChange fnExactLinesMeetWrong)

/-- 'laws.FnExactIsBox': WHATEVER THE INPUT: true; the input reads as it did. -/
def fnExactIsBoxSpec : ChangeSpec := { name := "fnExactIsBox", fn := fun _ => fun
  | [d] => { results := [.lit (.bool true)], args := [d] }
  | _ => none }
def fnExactIsBoxRow : OpenClaim := { program := "ytjnbdbgkecfkcaa", sum := "598697bf1a11afd58bd4bf60d8421b6d4a6cd7859fb5eefc34a865e006d29bfc", func := "loop.example/g03005/laws.FnExactIsBox", spec := "fnExactIsBox", apart := false }
def FnExactIsBoxSaid : Prop := fnExactIsBoxRow.holds Try.pinned (OpenSpec.ofChange fnExactIsBoxSpec)

/-- ITS FALSE NEIGHBOUR: 'it returns false'. Refute it at one input. -/
def fnExactIsBoxWrong : ChangeSpec := { name := "fnExactIsBox", fn := fun _ => fun
  | [d] => { results := [.lit (.bool false)], args := [d] }
  | _ => none }
def FnExactIsBoxWrongFalsely : Prop := fnExactIsBoxRow.holds Try.pinned (OpenSpec.ofChange fnExactIsBoxWrong)

/-- 'laws.FnExactBoxOf': WHATEVER THE INPUT: true; the input reads as it did. -/
def fnExactBoxOfSpec : ChangeSpec := { name := "fnExactBoxOf", fn := fun _ => fun
  | [d] => { results := [.lit (.bool true)], args := [d] }
  | _ => none }
def fnExactBoxOfRow : OpenClaim := { program := "ytjnbdbgkecfkcaa", sum := "598697bf1a11afd58bd4bf60d8421b6d4a6cd7859fb5eefc34a865e006d29bfc", func := "loop.example/g03005/laws.FnExactBoxOf", spec := "fnExactBoxOf", apart := false }
def FnExactBoxOfSaid : Prop := fnExactBoxOfRow.holds Try.pinned (OpenSpec.ofChange fnExactBoxOfSpec)

/-- ITS FALSE NEIGHBOUR: 'it returns false'. Refute it at one input. -/
def fnExactBoxOfWrong : ChangeSpec := { name := "fnExactBoxOf", fn := fun _ => fun
  | [d] => { results := [.lit (.bool false)], args := [d] }
  | _ => none }
def FnExactBoxOfWrongFalsely : Prop := fnExactBoxOfRow.holds Try.pinned (OpenSpec.ofChange fnExactBoxOfWrong)

/-- 'laws.FnExactBoxesMeet': WHATEVER THE INPUT: true; the input reads as it did. -/
def fnExactBoxesMeetSpec : ChangeSpec := { name := "fnExactBoxesMeet", fn := fun _ => fun
  | [d1, d2] => { results := [.lit (.bool true)], args := [d1, d2] }
  | _ => none }
def fnExactBoxesMeetRow : OpenClaim := { program := "ytjnbdbgkecfkcaa", sum := "598697bf1a11afd58bd4bf60d8421b6d4a6cd7859fb5eefc34a865e006d29bfc", func := "loop.example/g03005/laws.FnExactBoxesMeet", spec := "fnExactBoxesMeet", apart := false }
def FnExactBoxesMeetSaid : Prop := fnExactBoxesMeetRow.holds Try.pinned (OpenSpec.ofChange fnExactBoxesMeetSpec)

/-- ITS FALSE NEIGHBOUR: 'it returns false'. Refute it at one input. -/
def fnExactBoxesMeetWrong : ChangeSpec := { name := "fnExactBoxesMeet", fn := fun _ => fun
  | [d1, d2] => { results := [.lit (.bool false)], args := [d1, d2] }
  | _ => none }
def FnExactBoxesMeetWrongFalsely : Prop := fnExactBoxesMeetRow.holds Try.pinned (OpenSpec.ofChange fnExactBoxesMeetWrong)

/- THE SECOND FORM. 'bulk': how many values and letters a reading holds, each counted each time it is reached (what is shared counts as often as it is met; a slice's spare places count too). A statement '..UptoSaid' is the law's where the arguments, and the package variables that the reading takes, are together of bulk at most 1048576: NARROWER than '..Said'. Prove '..Said' where nothing that the law and all that it calls make is longer than what came in: it says more and counts as full. Else prove '..UptoSaid'. A law counts once. -/
mutual
def uptoBulk {H : Type} : DataW H → Nat
  | .lit (.string bytes) => bytes.length + 1
  | .lit _ => 1
  | .nil => 1
  | .ptr d => uptoBulk d + 1
  | .slice elems spare => uptoBulkAll elems + uptoBulkAll spare + 1
  | .agg parts => uptoBulkAll parts + 1
  | .iface _ d => uptoBulk d + 1
  | .map entries => uptoBulkEntries entries + 1
  | .held _ => 1
def uptoBulkAll {H : Type} : List (DataW H) → Nat
  | [] => 0
  | d :: r => uptoBulk d + uptoBulkAll r
def uptoBulkEntries {H : Type} : List (Lit × DataW H) → Nat
  | [] => 0
  | x :: r => uptoBulkEntry x + uptoBulkEntries r
def uptoBulkEntry {H : Type} : Lit × DataW H → Nat
  | (.string bytes, d) => bytes.length + uptoBulk d + 1
  | (_, d) => uptoBulk d + 1
 end
def uptoSmall : (H : Type) → List (DataW H) → Bool := fun _ ds => decide (uptoBulkAll ds ≤ 1048576)
def OpenSpec.upto (s : _root_.Go.ChangeSpec) : _root_.Go.OpenSpec := { _root_.Go.OpenSpec.ofChange s with cond := some uptoSmall }

/-- 'laws.FnSegments', WHERE WHAT IT READS IS OF BULK AT MOST 1048576: true; the input reads as it did. -/
def fnSegmentsUptoRow : OpenClaim := { program := "ytjnbdbgkecfkcaa", sum := "598697bf1a11afd58bd4bf60d8421b6d4a6cd7859fb5eefc34a865e006d29bfc", func := "loop.example/g03005/laws.FnSegments", spec := "fnSegments", apart := false, narrowed := true }
def FnSegmentsUptoSaid : Prop := fnSegmentsUptoRow.holds Try.pinned (OpenSpec.upto fnSegmentsSpec)

/-- 'laws.FnLines', WHERE WHAT IT READS IS OF BULK AT MOST 1048576: true; the input reads as it did. -/
def fnLinesUptoRow : OpenClaim := { program := "ytjnbdbgkecfkcaa", sum := "598697bf1a11afd58bd4bf60d8421b6d4a6cd7859fb5eefc34a865e006d29bfc", func := "loop.example/g03005/laws.FnLines", spec := "fnLines", unfollowed := true, recurses := true, apart := false, narrowed := true }
def FnLinesUptoSaid : Prop := fnLinesUptoRow.holds Try.pinned (OpenSpec.upto fnLinesSpec)

/-- 'laws.FnBoxes', WHERE WHAT IT READS IS OF BULK AT MOST 1048576: true; the input reads as it did. -/
def fnBoxesUptoRow : OpenClaim := { program := "ytjnbdbgkecfkcaa", sum := "598697bf1a11afd58bd4bf60d8421b6d4a6cd7859fb5eefc34a865e006d29bfc", func := "loop.example/g03005/laws.FnBoxes", spec := "fnBoxes", apart := false, narrowed := true }
def FnBoxesUptoSaid : Prop := fnBoxesUptoRow.holds Try.pinned (OpenSpec.upto fnBoxesSpec)

/-- 'laws.FnExactIsSegment', WHERE WHAT IT READS IS OF BULK AT MOST 1048576: true; the input reads as it did. -/
def fnExactIsSegmentUptoRow : OpenClaim := { program := "ytjnbdbgkecfkcaa", sum := "598697bf1a11afd58bd4bf60d8421b6d4a6cd7859fb5eefc34a865e006d29bfc", func := "loop.example/g03005/laws.FnExactIsSegment", spec := "fnExactIsSegment", apart := false, narrowed := true }
def FnExactIsSegmentUptoSaid : Prop := fnExactIsSegmentUptoRow.holds Try.pinned (OpenSpec.upto fnExactIsSegmentSpec)

/-- 'laws.FnExactIsOn', WHERE WHAT IT READS IS OF BULK AT MOST 1048576: true; the input reads as it did. -/
def fnExactIsOnUptoRow : OpenClaim := { program := "ytjnbdbgkecfkcaa", sum := "598697bf1a11afd58bd4bf60d8421b6d4a6cd7859fb5eefc34a865e006d29bfc", func := "loop.example/g03005/laws.FnExactIsOn", spec := "fnExactIsOn", apart := false, narrowed := true }
def FnExactIsOnUptoSaid : Prop := fnExactIsOnUptoRow.holds Try.pinned (OpenSpec.upto fnExactIsOnSpec)

/-- 'laws.FnExactHowMeet', WHERE WHAT IT READS IS OF BULK AT MOST 1048576: true; the input reads as it did. -/
def fnExactHowMeetUptoRow : OpenClaim := { program := "ytjnbdbgkecfkcaa", sum := "598697bf1a11afd58bd4bf60d8421b6d4a6cd7859fb5eefc34a865e006d29bfc", func := "loop.example/g03005/laws.FnExactHowMeet", spec := "fnExactHowMeet", apart := false, narrowed := true }
def FnExactHowMeetUptoSaid : Prop := fnExactHowMeetUptoRow.holds Try.pinned (OpenSpec.upto fnExactHowMeetSpec)

/-- 'laws.FnExactIsBetween', WHERE WHAT IT READS IS OF BULK AT MOST 1048576: true; the input reads as it did. -/
def fnExactIsBetweenUptoRow : OpenClaim := { program := "ytjnbdbgkecfkcaa", sum := "598697bf1a11afd58bd4bf60d8421b6d4a6cd7859fb5eefc34a865e006d29bfc", func := "loop.example/g03005/laws.FnExactIsBetween", spec := "fnExactIsBetween", apart := false, narrowed := true }
def FnExactIsBetweenUptoSaid : Prop := fnExactIsBetweenUptoRow.holds Try.pinned (OpenSpec.upto fnExactIsBetweenSpec)

/-- 'laws.FnExactIsLine', WHERE WHAT IT READS IS OF BULK AT MOST 1048576: true; the input reads as it did. -/
def fnExactIsLineUptoRow : OpenClaim := { program := "ytjnbdbgkecfkcaa", sum := "598697bf1a11afd58bd4bf60d8421b6d4a6cd7859fb5eefc34a865e006d29bfc", func := "loop.example/g03005/laws.FnExactIsLine", spec := "fnExactIsLine", unfollowed := true, recurses := true, apart := false, narrowed := true }
def FnExactIsLineUptoSaid : Prop := fnExactIsLineUptoRow.holds Try.pinned (OpenSpec.upto fnExactIsLineSpec)

/-- 'laws.FnExactSegmentsOf', WHERE WHAT IT READS IS OF BULK AT MOST 1048576: true; the input reads as it did. -/
def fnExactSegmentsOfUptoRow : OpenClaim := { program := "ytjnbdbgkecfkcaa", sum := "598697bf1a11afd58bd4bf60d8421b6d4a6cd7859fb5eefc34a865e006d29bfc", func := "loop.example/g03005/laws.FnExactSegmentsOf", spec := "fnExactSegmentsOf", unfollowed := true, recurses := true, apart := false, narrowed := true }
def FnExactSegmentsOfUptoSaid : Prop := fnExactSegmentsOfUptoRow.holds Try.pinned (OpenSpec.upto fnExactSegmentsOfSpec)

/-- 'laws.FnExactIsSimple', WHERE WHAT IT READS IS OF BULK AT MOST 1048576: true; the input reads as it did. -/
def fnExactIsSimpleUptoRow : OpenClaim := { program := "ytjnbdbgkecfkcaa", sum := "598697bf1a11afd58bd4bf60d8421b6d4a6cd7859fb5eefc34a865e006d29bfc", func := "loop.example/g03005/laws.FnExactIsSimple", spec := "fnExactIsSimple", unfollowed := true, recurses := true, apart := false, narrowed := true }
def FnExactIsSimpleUptoSaid : Prop := fnExactIsSimpleUptoRow.holds Try.pinned (OpenSpec.upto fnExactIsSimpleSpec)

/-- 'laws.FnExactLineSteps', WHERE WHAT IT READS IS OF BULK AT MOST 1048576: true; the input reads as it did. -/
def fnExactLineStepsUptoRow : OpenClaim := { program := "ytjnbdbgkecfkcaa", sum := "598697bf1a11afd58bd4bf60d8421b6d4a6cd7859fb5eefc34a865e006d29bfc", func := "loop.example/g03005/laws.FnExactLineSteps", spec := "fnExactLineSteps", unfollowed := true, recurses := true, apart := false, narrowed := true }
def FnExactLineStepsUptoSaid : Prop := fnExactLineStepsUptoRow.holds Try.pinned (OpenSpec.upto fnExactLineStepsSpec)

/-- 'laws.FnExactLinesMeet', WHERE WHAT IT READS IS OF BULK AT MOST 1048576: true; the input reads as it did. -/
def fnExactLinesMeetUptoRow : OpenClaim := { program := "ytjnbdbgkecfkcaa", sum := "598697bf1a11afd58bd4bf60d8421b6d4a6cd7859fb5eefc34a865e006d29bfc", func := "loop.example/g03005/laws.FnExactLinesMeet", spec := "fnExactLinesMeet", unfollowed := true, recurses := true, apart := false, narrowed := true }
def FnExactLinesMeetUptoSaid : Prop := fnExactLinesMeetUptoRow.holds Try.pinned (OpenSpec.upto fnExactLinesMeetSpec)

/-- 'laws.FnExactIsBox', WHERE WHAT IT READS IS OF BULK AT MOST 1048576: true; the input reads as it did. -/
def fnExactIsBoxUptoRow : OpenClaim := { program := "ytjnbdbgkecfkcaa", sum := "598697bf1a11afd58bd4bf60d8421b6d4a6cd7859fb5eefc34a865e006d29bfc", func := "loop.example/g03005/laws.FnExactIsBox", spec := "fnExactIsBox", apart := false, narrowed := true }
def FnExactIsBoxUptoSaid : Prop := fnExactIsBoxUptoRow.holds Try.pinned (OpenSpec.upto fnExactIsBoxSpec)

/-- 'laws.FnExactBoxOf', WHERE WHAT IT READS IS OF BULK AT MOST 1048576: true; the input reads as it did. -/
def fnExactBoxOfUptoRow : OpenClaim := { program := "ytjnbdbgkecfkcaa", sum := "598697bf1a11afd58bd4bf60d8421b6d4a6cd7859fb5eefc34a865e006d29bfc", func := "loop.example/g03005/laws.FnExactBoxOf", spec := "fnExactBoxOf", apart := false, narrowed := true }
def FnExactBoxOfUptoSaid : Prop := fnExactBoxOfUptoRow.holds Try.pinned (OpenSpec.upto fnExactBoxOfSpec)

/-- 'laws.FnExactBoxesMeet', WHERE WHAT IT READS IS OF BULK AT MOST 1048576: true; the input reads as it did. -/
def fnExactBoxesMeetUptoRow : OpenClaim := { program := "ytjnbdbgkecfkcaa", sum := "598697bf1a11afd58bd4bf60d8421b6d4a6cd7859fb5eefc34a865e006d29bfc", func := "loop.example/g03005/laws.FnExactBoxesMeet", spec := "fnExactBoxesMeet", apart := false, narrowed := true }
def FnExactBoxesMeetUptoSaid : Prop := fnExactBoxesMeetUptoRow.holds Try.pinned (OpenSpec.upto fnExactBoxesMeetSpec)

end Rows
end Go.Proofs.Ytjnbdbgkecfkcaa
