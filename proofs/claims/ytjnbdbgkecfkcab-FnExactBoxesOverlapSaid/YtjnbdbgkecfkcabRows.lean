/-
  No cell of these rows narrows 'for every input' (looked for: loops, veiled, ifaces, maps, wideKeys, modest, calm, conditions, laid).
  DERIVED. THE GIVEN ROWS OF THIS SEAT. 4 by the template 'for every input the law returns true; each argument reads behind the call as it read before'; 0 by the template 'total and deterministic' (their statements: YtjnbdbgkecfkcabTotals.lean).
  GIVEN WITH THE SEED: the statements are not yours to turn. If you find one false, say at which input.
  Laid BY PROGRAM, IN A SANDBOX (cutbox-rows.mjs): the forced cells as the released guide's own fill.sh prints them over the translation 8efded93b3b4c0e3… (all of the seat's roots in one cut). By AI agents, Wed Nov 11 2026. No macro, syntax, notation, axiom, sorry.
-/
import Derived.Test.YtjnbdbgkecfkcabChecked
import GoSem.Claim
import GoSem.ClaimJoined
import GoSem.ClaimMapViews
import Derived.JoinedTies
import Derived.KernelRfl
namespace Go.Proofs.Ytjnbdbgkecfkcab
/- THE CELL 'sum', in the pinned program and in every row, IS THE sha256 OF THE DUMP (.gsa) THAT YtjnbdbgkecfkcabProg.lean LOADS. Nothing in Lean hashes anything: it is a label: what it is worth is what the hold of that sum in a sandbox is worth. -/
noncomputable def Try.pinned : Pinned := { name := "ytjnbdbgkecfkcab", sum := "8efded93b3b4c0e3e40967001650b1748639e42b04a05abff7bf3d4e5732b47a", checked := Try.checked }
namespace Rows
def none {H : Type} : Left H := { results := [], args := [] }

/-- 'laws.FnExactBoxesOverlap': WHATEVER THE INPUT: true; the input reads as it did. -/
def fnExactBoxesOverlapSpec : ChangeSpec := { name := "fnExactBoxesOverlap", fn := fun _ => fun
  | [d1, d2] => { results := [.lit (.bool true)], args := [d1, d2] }
  | _ => none }
def fnExactBoxesOverlapRow : OpenClaim := { program := "ytjnbdbgkecfkcab", sum := "8efded93b3b4c0e3e40967001650b1748639e42b04a05abff7bf3d4e5732b47a", func := "loop.example/g03005/laws.FnExactBoxesOverlap", spec := "fnExactBoxesOverlap", apart := false }
def FnExactBoxesOverlapSaid : Prop := fnExactBoxesOverlapRow.holds Try.pinned (OpenSpec.ofChange fnExactBoxesOverlapSpec)

/-- ITS FALSE NEIGHBOUR: 'it returns false'. Refute it at one input. -/
def fnExactBoxesOverlapWrong : ChangeSpec := { name := "fnExactBoxesOverlap", fn := fun _ => fun
  | [d1, d2] => { results := [.lit (.bool false)], args := [d1, d2] }
  | _ => none }
def FnExactBoxesOverlapWrongFalsely : Prop := fnExactBoxesOverlapRow.holds Try.pinned (OpenSpec.ofChange fnExactBoxesOverlapWrong)

/-- 'laws.FnExactInBox': WHATEVER THE INPUT: true; the input reads as it did. -/
def fnExactInBoxSpec : ChangeSpec := { name := "fnExactInBox", fn := fun _ => fun
  | [d1, d2] => { results := [.lit (.bool true)], args := [d1, d2] }
  | _ => none }
def fnExactInBoxRow : OpenClaim := { program := "ytjnbdbgkecfkcab", sum := "8efded93b3b4c0e3e40967001650b1748639e42b04a05abff7bf3d4e5732b47a", func := "loop.example/g03005/laws.FnExactInBox", spec := "fnExactInBox", apart := false }
def FnExactInBoxSaid : Prop := fnExactInBoxRow.holds Try.pinned (OpenSpec.ofChange fnExactInBoxSpec)

/-- ITS FALSE NEIGHBOUR: 'it returns false'. Refute it at one input. -/
def fnExactInBoxWrong : ChangeSpec := { name := "fnExactInBox", fn := fun _ => fun
  | [d1, d2] => { results := [.lit (.bool false)], args := [d1, d2] }
  | _ => none }
def FnExactInBoxWrongFalsely : Prop := fnExactInBoxRow.holds Try.pinned (OpenSpec.ofChange fnExactInBoxWrong)

/-- 'laws.FnExactGrowBox': WHATEVER THE INPUT: true; the input reads as it did. -/
def fnExactGrowBoxSpec : ChangeSpec := { name := "fnExactGrowBox", fn := fun _ => fun
  | [d1, d2] => { results := [.lit (.bool true)], args := [d1, d2] }
  | _ => none }
def fnExactGrowBoxRow : OpenClaim := { program := "ytjnbdbgkecfkcab", sum := "8efded93b3b4c0e3e40967001650b1748639e42b04a05abff7bf3d4e5732b47a", func := "loop.example/g03005/laws.FnExactGrowBox", spec := "fnExactGrowBox", apart := false }
def FnExactGrowBoxSaid : Prop := fnExactGrowBoxRow.holds Try.pinned (OpenSpec.ofChange fnExactGrowBoxSpec)

/-- ITS FALSE NEIGHBOUR: 'it returns false'. Refute it at one input. -/
def fnExactGrowBoxWrong : ChangeSpec := { name := "fnExactGrowBox", fn := fun _ => fun
  | [d1, d2] => { results := [.lit (.bool false)], args := [d1, d2] }
  | _ => none }
def FnExactGrowBoxWrongFalsely : Prop := fnExactGrowBoxRow.holds Try.pinned (OpenSpec.ofChange fnExactGrowBoxWrong)

/-- 'laws.FnExactJoinBoxes': WHATEVER THE INPUT: true; the input reads as it did. -/
def fnExactJoinBoxesSpec : ChangeSpec := { name := "fnExactJoinBoxes", fn := fun _ => fun
  | [d1, d2] => { results := [.lit (.bool true)], args := [d1, d2] }
  | _ => none }
def fnExactJoinBoxesRow : OpenClaim := { program := "ytjnbdbgkecfkcab", sum := "8efded93b3b4c0e3e40967001650b1748639e42b04a05abff7bf3d4e5732b47a", func := "loop.example/g03005/laws.FnExactJoinBoxes", spec := "fnExactJoinBoxes", apart := false }
def FnExactJoinBoxesSaid : Prop := fnExactJoinBoxesRow.holds Try.pinned (OpenSpec.ofChange fnExactJoinBoxesSpec)

/-- ITS FALSE NEIGHBOUR: 'it returns false'. Refute it at one input. -/
def fnExactJoinBoxesWrong : ChangeSpec := { name := "fnExactJoinBoxes", fn := fun _ => fun
  | [d1, d2] => { results := [.lit (.bool false)], args := [d1, d2] }
  | _ => none }
def FnExactJoinBoxesWrongFalsely : Prop := fnExactJoinBoxesRow.holds Try.pinned (OpenSpec.ofChange fnExactJoinBoxesWrong)

/- THE SECOND FORM. 'bulk': how many values and letters a reading holds, each counted each time it is reached (what is shared counts as often as it is met; a slice's spare places count too). A statement '..UptoSaid' is the law's where the arguments, and the package variables that the reading takes, are together of bulk at most 1048576: NARROWER than '..Said'. Prove '..Said' where nothing that the law and all that it calls make is longer than what came in: it says more and counts as full. Else prove '..UptoSaid'. A law counts once. -/
mutual
def uptoBulk {H : Type} : DataW H → Nat
  | .lit (.string bytes) => bytes.length + 1
  | .lit _ => 1
  | .nil => 1
  | .ptr d => uptoBulk d + 1
  | .slice elems spare => uptoBulkAll elems + uptoBulkAll spare + 1
  | .agg parts => uptoBulkAll parts + 1
  | .iface _ d => uptoBulk d + 1
  | .map entries => uptoBulkEntries entries + 1
  | .held _ => 1
def uptoBulkAll {H : Type} : List (DataW H) → Nat
  | [] => 0
  | d :: r => uptoBulk d + uptoBulkAll r
def uptoBulkEntries {H : Type} : List (Lit × DataW H) → Nat
  | [] => 0
  | x :: r => uptoBulkEntry x + uptoBulkEntries r
def uptoBulkEntry {H : Type} : Lit × DataW H → Nat
  | (.string bytes, d) => bytes.length + uptoBulk d + 1
  | (_, d) => uptoBulk d + 1
 end
def uptoSmall : (H : Type) → List (DataW H) → Bool := fun _ ds => decide (uptoBulkAll ds ≤ 1048576)
def OpenSpec.upto (s : _root_.Go.ChangeSpec) : _root_.Go.OpenSpec := { _root_.Go.OpenSpec.ofChange s with cond := some uptoSmall }

/-- 'laws.FnExactBoxesOverlap', WHERE WHAT IT READS IS OF BULK AT MOST 1048576: true; the input reads as it did. -/
def fnExactBoxesOverlapUptoRow : OpenClaim := { program := "ytjnbdbgkecfkcab", sum := "8efded93b3b4c0e3e40967001650b1748639e42b04a05abff7bf3d4e5732b47a", func := "loop.example/g03005/laws.FnExactBoxesOverlap", spec := "fnExactBoxesOverlap", apart := false, narrowed := true }
def FnExactBoxesOverlapUptoSaid : Prop := fnExactBoxesOverlapUptoRow.holds Try.pinned (OpenSpec.upto fnExactBoxesOverlapSpec)

/-- 'laws.FnExactInBox', WHERE WHAT IT READS IS OF BULK AT MOST 1048576: true; the input reads as it did. -/
def fnExactInBoxUptoRow : OpenClaim := { program := "ytjnbdbgkecfkcab", sum := "8efded93b3b4c0e3e40967001650b1748639e42b04a05abff7bf3d4e5732b47a", func := "loop.example/g03005/laws.FnExactInBox", spec := "fnExactInBox", apart := false, narrowed := true }
def FnExactInBoxUptoSaid : Prop := fnExactInBoxUptoRow.holds Try.pinned (OpenSpec.upto fnExactInBoxSpec)

/-- 'laws.FnExactGrowBox', WHERE WHAT IT READS IS OF BULK AT MOST 1048576: true; the input reads as it did. -/
def fnExactGrowBoxUptoRow : OpenClaim := { program := "ytjnbdbgkecfkcab", sum := "8efded93b3b4c0e3e40967001650b1748639e42b04a05abff7bf3d4e5732b47a", func := "loop.example/g03005/laws.FnExactGrowBox", spec := "fnExactGrowBox", apart := false, narrowed := true }
def FnExactGrowBoxUptoSaid : Prop := fnExactGrowBoxUptoRow.holds Try.pinned (OpenSpec.upto fnExactGrowBoxSpec)

/-- 'laws.FnExactJoinBoxes', WHERE WHAT IT READS IS OF BULK AT MOST 1048576: true; the input reads as it did. -/
def fnExactJoinBoxesUptoRow : OpenClaim := { program := "ytjnbdbgkecfkcab", sum := "8efded93b3b4c0e3e40967001650b1748639e42b04a05abff7bf3d4e5732b47a", func := "loop.example/g03005/laws.FnExactJoinBoxes", spec := "fnExactJoinBoxes", apart := false, narrowed := true }
def FnExactJoinBoxesUptoSaid : Prop := fnExactJoinBoxesUptoRow.holds Try.pinned (OpenSpec.upto fnExactJoinBoxesSpec)

end Rows
end Go.Proofs.Ytjnbdbgkecfkcab
