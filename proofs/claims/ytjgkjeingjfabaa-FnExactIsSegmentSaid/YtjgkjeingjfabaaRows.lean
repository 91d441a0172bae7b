/-
  No cell of these rows narrows 'for every input' (looked for: loops, veiled, ifaces, maps, wideKeys, modest, calm, conditions, laid).
  DERIVED. THE GIVEN ROWS OF THIS SEAT. 6 by the template 'for every input the law returns true; each argument reads behind the call as it read before'; 0 by the template 'total and deterministic' (their statements: YtjgkjeingjfabaaTotals.lean).
  GIVEN WITH THE SEED: the statements are not yours to turn. If you find one false, say at which input.
  Laid BY PROGRAM, IN A SANDBOX (cutbox-rows.mjs): the forced cells as the released guide's own fill.sh prints them over the translation 8d2751bbc8e9ef24… (all of the seat's roots in one cut). By AI agents, Wed Nov 11 2026. No macro, syntax, notation, axiom, sorry.
-/
import Derived.Test.YtjgkjeingjfabaaChecked
import GoSem.Claim
import GoSem.ClaimJoined
import GoSem.ClaimMapViews
import Derived.JoinedTies
import Derived.KernelRfl
namespace Go.Proofs.Ytjgkjeingjfabaa
/- THE CELL 'sum', in the pinned program and in every row, IS THE sha256 OF THE DUMP (.gsa) THAT YtjgkjeingjfabaaProg.lean LOADS. Nothing in Lean hashes anything: it is a label: what it is worth is what the hold of that sum in a sandbox is worth. -/
noncomputable def Try.pinned : Pinned := { name := "ytjgkjeingjfabaa", sum := "8d2751bbc8e9ef246e318a1650363d7edc1077481b83fe45e5e6e31315c22651", checked := Try.checked }
namespace Rows
def none {H : Type} : Left H := { results := [], args := [] }

/-- 'laws.FnSegments': WHATEVER THE INPUT: true; the input reads as it did. -/
def fnSegmentsSpec : ChangeSpec := { name := "fnSegments", fn := fun _ => fun
  | [d] => { results := [.lit (.bool true)], args := [d] }
  | _ => none }
def fnSegmentsRow : OpenClaim := { program := "ytjgkjeingjfabaa", sum := "8d2751bbc8e9ef246e318a1650363d7edc1077481b83fe45e5e6e31315c22651", func := "loop.example/g03005/laws.FnSegments", spec := "fnSegments", apart := false }
def FnSegmentsSaid : Prop := fnSegmentsRow.holds Try.pinned (OpenSpec.ofChange fnSegmentsSpec)

/-- ITS FALSE NEIGHBOUR: 'it returns false'. Refute it at one input. -/
def fnSegmentsWrong : ChangeSpec := { name := "fnSegments", fn := fun _ => fun
  | [d] => { results := [.lit (.bool false)], args := [d] }
  | _ => none }
def FnSegmentsWrongFalsely : Prop := fnSegmentsRow.holds Try.pinned (OpenSpec.ofChange fnSegmentsWrong)

/-- 'laws.FnExactIsSegment': WHATEVER THE INPUT: true; the input reads as it did. -/
def fnExactIsSegmentSpec : ChangeSpec := { name := "fnExactIsSegment", fn := fun _ => fun
  | [d] => { results := [.lit (.bool true)], args := [d] }
  | _ => none }
def fnExactIsSegmentRow : OpenClaim := { program := "ytjgkjeingjfabaa", sum := "8d2751bbc8e9ef246e318a1650363d7edc1077481b83fe45e5e6e31315c22651", func := "loop.example/g03005/laws.FnExactIsSegment", spec := "fnExactIsSegment", apart := false }
def FnExactIsSegmentSaid : Prop := fnExactIsSegmentRow.holds Try.pinned (OpenSpec.ofChange fnExactIsSegmentSpec)

/-- ITS FALSE NEIGHBOUR: 'it returns false'. Refute it at one input. -/
def fnExactIsSegmentWrong : ChangeSpec := { name := "fnExactIsSegment", fn := fun _ => fun
  | [d] => { results := [.lit (.bool false)], args := [d] }
  | _ => none }
def FnExactIsSegmentWrongFalsely : Prop := fnExactIsSegmentRow.holds Try.pinned (OpenSpec.ofChange fnExactIsSegmentWrong)

/-- 'laws.FnExactIsOn': WHATEVER THE INPUT: true; the input reads as it did. -/
def fnExactIsOnSpec : ChangeSpec := { name := "fnExactIsOn", fn := fun _ => fun
  | [d1, d2] => { results := [.lit (.bool true)], args := [d1, d2] }
  | _ => none }
def fnExactIsOnRow : OpenClaim := { program := "ytjgkjeingjfabaa", sum := "8d2751bbc8e9ef246e318a1650363d7edc1077481b83fe45e5e6e31315c22651", func := "loop.example/g03005/laws.FnExactIsOn", spec := "fnExactIsOn", apart := false }
def FnExactIsOnSaid : Prop := fnExactIsOnRow.holds Try.pinned (OpenSpec.ofChange fnExactIsOnSpec)

/-- ITS FALSE NEIGHBOUR: 'it returns false'. Refute it at one input. -/
def fnExactIsOnWrong : ChangeSpec := { name := "fnExactIsOn", fn := fun _ => fun
  | [d1, d2] => { results := [.lit (.bool false)], args := [d1, d2] }
  | _ => none }
def FnExactIsOnWrongFalsely : Prop := fnExactIsOnRow.holds Try.pinned (OpenSpec.ofChange fnExactIsOnWrong)

/-- 'laws.FnExactHowMeet': WHATEVER THE INPUT: true; the input reads as it did. -/
def fnExactHowMeetSpec : ChangeSpec := { name := "fnExactHowMeet", fn := fun _ => fun
  | [d1, d2] => { results := [.lit (.bool true)], args := [d1, d2] }
  | _ => none }
def fnExactHowMeetRow : OpenClaim := { program := "ytjgkjeingjfabaa", sum := "8d2751bbc8e9ef246e318a1650363d7edc1077481b83fe45e5e6e31315c22651", func := "loop.example/g03005/laws.FnExactHowMeet", spec := "fnExactHowMeet", apart := false }
def FnExactHowMeetSaid : Prop := fnExactHowMeetRow.holds Try.pinned (OpenSpec.ofChange fnExactHowMeetSpec)

/-- ITS FALSE NEIGHBOUR: 'it returns false'. Refute it at one input. -/
def fnExactHowMeetWrong : ChangeSpec := { name := "fnExactHowMeet", fn := fun _ => fun
  | [d1, d2] => { results := [.lit (.bool false)], args := [d1, d2] }
  | _ => none }
def FnExactHowMeetWrongFalsely : Prop := fnExactHowMeetRow.holds Try.pinned (OpenSpec.ofChange fnExactHowMeetWrong)

/-- 'laws.FnExactIsBetween': WHATEVER THE INPUT: true; the input reads as it did. -/
def fnExactIsBetweenSpec : ChangeSpec := { name := "fnExactIsBetween", fn := fun _ => fun
  | [d1, d2] => { results := [.lit (.bool true)], args := [d1, d2] }
  | _ => none }
def fnExactIsBetweenRow : OpenClaim := { program := "ytjgkjeingjfabaa", sum := "8d2751bbc8e9ef246e318a1650363d7edc1077481b83fe45e5e6e31315c22651", func := "loop.example/g03005/laws.FnExactIsBetween", spec := "fnExactIsBetween", apart := false }
def FnExactIsBetweenSaid : Prop := fnExactIsBetweenRow.holds Try.pinned (OpenSpec.ofChange fnExactIsBetweenSpec)

/-- ITS FALSE NEIGHBOUR: 'it returns false'. Refute it at one input. -/
def fnExactIsBetweenWrong : ChangeSpec := { name := "fnExactIsBetween", fn := fun _ => fun
  | [d1, d2] => { results := [.lit (.bool false)], args := [d1, d2] }
  | _ => none }
def FnExactIsBetweenWrongFalsely : Prop := fnExactIsBetweenRow.holds Try.pinned (OpenSpec.ofChange fnExactIsBetweenWrong)

/-- 'laws.FnExactTurnSegment': WHATEVER THE INPUT: true; the input reads as it did. -/
def fnExactTurnSegmentSpec : ChangeSpec := { name := "fnExactTurnSegment", fn := fun _ => fun
  | [d] => { results := [.lit (.bool true)], args := [d] }
  | _ => none }
def fnExactTurnSegmentRow : OpenClaim := { program := "ytjgkjeingjfabaa", sum := "8d2751bbc8e9ef246e318a1650363d7edc1077481b83fe45e5e6e31315c22651", func := "loop.example/g03005/laws.FnExactTurnSegment", spec := "fnExactTurnSegment", apart := false }
def FnExactTurnSegmentSaid : Prop := fnExactTurnSegmentRow.holds Try.pinned (OpenSpec.ofChange fnExactTurnSegmentSpec)

/-- ITS FALSE NEIGHBOUR: 'it returns false'. Refute it at one input. -/
def fnExactTurnSegmentWrong : ChangeSpec := { name := "fnExactTurnSegment", fn := fun _ => fun
  | [d] => { results := [.lit (.bool false)], args := [d] }
  | _ => none }
def FnExactTurnSegmentWrongFalsely : Prop := fnExactTurnSegmentRow.holds Try.pinned (OpenSpec.ofChange fnExactTurnSegmentWrong)

/- THE SECOND FORM. 'bulk': how many values and letters a reading holds, each counted each time it is reached (what is shared counts as often as it is met; a slice's spare places count too). A statement '..UptoSaid' is the law's where the arguments, and the package variables that the reading takes, are together of bulk at most 1048576: NARROWER than '..Said'. Prove '..Said' where nothing that the law and all that it calls make is longer than what came in: it says more and counts as full. Else prove '..UptoSaid'. A law counts once. -/
mutual
def uptoBulk {H : Type} : DataW H → Nat
  | .lit (.string bytes) => bytes.length + 1
  | .lit _ => 1
  | .nil => 1
  | .ptr d => uptoBulk d + 1
  | .slice elems spare => uptoBulkAll elems + uptoBulkAll spare + 1
  | .agg parts => uptoBulkAll parts + 1
  | .iface _ d => uptoBulk d + 1
  | .map entries => uptoBulkEntries entries + 1
  | .held _ => 1
def uptoBulkAll {H : Type} : List (DataW H) → Nat
  | [] => 0
  | d :: r => uptoBulk d + uptoBulkAll r
def uptoBulkEntries {H : Type} : List (Lit × DataW H) → Nat
  | [] => 0
  | x :: r => uptoBulkEntry x + uptoBulkEntries r
def uptoBulkEntry {H : Type} : Lit × DataW H → Nat
  | (.string bytes, d) => bytes.length + uptoBulk d + 1
  | (_, d) => uptoBulk d + 1
 end
def uptoSmall : (H : Type) → List (DataW H) → Bool := fun _ ds => decide (uptoBulkAll ds ≤ 1048576)
def OpenSpec.upto (s : _root_.Go.ChangeSpec) : _root_.Go.OpenSpec := { _root_.Go.OpenSpec.ofChange s with cond := some uptoSmall }

/-- 'laws.FnSegments', WHERE WHAT IT READS IS OF BULK AT MOST 1048576: true; the input reads as it did. -/
def fnSegmentsUptoRow : OpenClaim := { program := "ytjgkjeingjfabaa", sum := "8d2751bbc8e9ef246e318a1650363d7edc1077481b83fe45e5e6e31315c22651", func := "loop.example/g03005/laws.FnSegments", spec := "fnSegments", apart := false, narrowed := true }
def FnSegmentsUptoSaid : Prop := fnSegmentsUptoRow.holds Try.pinned (OpenSpec.upto fnSegmentsSpec)

/-- 'laws.FnExactIsSegment', WHERE WHAT IT READS IS OF BULK AT MOST 1048576: true; the input reads as it did. -/
def fnExactIsSegmentUptoRow : OpenClaim := { program := "ytjgkjeingjfabaa", sum := "8d2751bbc8e9ef246e318a1650363d7edc1077481b83fe45e5e6e31315c22651", func := "loop.example/g03005/laws.FnExactIsSegment", spec := "fnExactIsSegment", apart := false, narrowed := true }
def FnExactIsSegmentUptoSaid : Prop := fnExactIsSegmentUptoRow.holds Try.pinned (OpenSpec.upto fnExactIsSegmentSpec)

/-- 'laws.FnExactIsOn', WHERE WHAT IT READS IS OF BULK AT MOST 1048576: true; the input reads as it did. -/
def fnExactIsOnUptoRow : OpenClaim := { program := "ytjgkjeingjfabaa", sum := "8d2751bbc8e9ef246e318a1650363d7edc1077481b83fe45e5e6e31315c22651", func := "loop.example/g03005/laws.FnExactIsOn", spec := "fnExactIsOn", apart := false, narrowed := true }
def FnExactIsOnUptoSaid : Prop := fnExactIsOnUptoRow.holds Try.pinned (OpenSpec.upto fnExactIsOnSpec)

/-- 'laws.FnExactHowMeet', WHERE WHAT IT READS IS OF BULK AT MOST 1048576: true; the input reads as it did. -/
def fnExactHowMeetUptoRow : OpenClaim := { program := "ytjgkjeingjfabaa", sum := "8d2751bbc8e9ef246e318a1650363d7edc1077481b83fe45e5e6e31315c22651", func := "loop.example/g03005/laws.FnExactHowMeet", spec := "fnExactHowMeet", apart := false, narrowed := true }
def FnExactHowMeetUptoSaid : Prop := fnExactHowMeetUptoRow.holds Try.pinned (OpenSpec.upto fnExactHowMeetSpec)

/-- 'laws.FnExactIsBetween', WHERE WHAT IT READS IS OF BULK AT MOST 1048576: true; the input reads as it did. -/
def fnExactIsBetweenUptoRow : OpenClaim := { program := "ytjgkjeingjfabaa", sum := "8d2751bbc8e9ef246e318a1650363d7edc1077481b83fe45e5e6e31315c22651", func := "loop.example/g03005/laws.FnExactIsBetween", spec := "fnExactIsBetween", apart := false, narrowed := true }
def FnExactIsBetweenUptoSaid : Prop := fnExactIsBetweenUptoRow.holds Try.pinned (OpenSpec.upto fnExactIsBetweenSpec)

/-- 'laws.FnExactTurnSegment', WHERE WHAT IT READS IS OF BULK AT MOST 1048576: true; the input reads as it did. -/
def fnExactTurnSegmentUptoRow : OpenClaim := { program := "ytjgkjeingjfabaa", sum := "8d2751bbc8e9ef246e318a1650363d7edc1077481b83fe45e5e6e31315c22651", func := "loop.example/g03005/laws.FnExactTurnSegment", spec := "fnExactTurnSegment", apart := false, narrowed := true }
def FnExactTurnSegmentUptoSaid : Prop := fnExactTurnSegmentUptoRow.holds Try.pinned (OpenSpec.upto fnExactTurnSegmentSpec)

end Rows
end Go.Proofs.Ytjgkjeingjfabaa
