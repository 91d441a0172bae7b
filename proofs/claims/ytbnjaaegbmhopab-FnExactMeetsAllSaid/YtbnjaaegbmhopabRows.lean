/-
  No cell of these rows narrows 'for every input' (looked for: loops, veiled, ifaces, maps, wideKeys, modest, calm, conditions, laid).
  DERIVED. THE GIVEN ROWS OF THIS SEAT. 4 by the template 'for every input the law returns true; each argument reads behind the call as it read before'; 0 by the template 'total and deterministic' (their statements: YtbnjaaegbmhopabTotals.lean).
  GIVEN WITH THE SEED: the statements are not yours to turn. If you find one false, say at which input.
  Laid BY PROGRAM, IN A SANDBOX (cutbox-rows.mjs): the forced cells as the released guide's own fill.sh prints them over the translation 678a3abe8faaae88… (all of the seat's roots in one cut). By AI agents, Wed Nov 11 2026. No macro, syntax, notation, axiom, sorry.
-/
import Derived.Test.YtbnjaaegbmhopabChecked
import GoSem.Claim
import GoSem.ClaimJoined
import GoSem.ClaimMapViews
import Derived.JoinedTies
import Derived.KernelRfl
namespace Go.Proofs.Ytbnjaaegbmhopab
/- THE CELL 'sum', in the pinned program and in every row, IS THE sha256 OF THE DUMP (.gsa) THAT YtbnjaaegbmhopabProg.lean LOADS. Nothing in Lean hashes anything: it is a label: what it is worth is what the hold of that sum in a sandbox is worth. -/
noncomputable def Try.pinned : Pinned := { name := "ytbnjaaegbmhopab", sum := "678a3abe8faaae88a10a39ac4f026865d9b39a9f638dabaae58affa15cc5dfce", checked := Try.checked }
namespace Rows
def none {H : Type} : Left H := { results := [], args := [] }

/-- 'laws.FnExactCornerArea': WHATEVER THE INPUT: true; the input reads as it did. -/
def fnExactCornerAreaSpec : ChangeSpec := { name := "fnExactCornerArea", fn := fun _ => fun
  | [d1, d2] => { results := [.lit (.bool true)], args := [d1, d2] }
  | _ => none }
def fnExactCornerAreaRow : OpenClaim := { program := "ytbnjaaegbmhopab", sum := "678a3abe8faaae88a10a39ac4f026865d9b39a9f638dabaae58affa15cc5dfce", func := "loop.example/g03005/laws.FnExactCornerArea", spec := "fnExactCornerArea", unfollowed := true, recurses := true, apart := false }
def FnExactCornerAreaSaid : Prop := fnExactCornerAreaRow.holds Try.pinned (OpenSpec.ofChange fnExactCornerAreaSpec)

/-- ITS FALSE NEIGHBOUR: 'it returns false'. Refute it at one input. -/
def fnExactCornerAreaWrong : ChangeSpec := { name := "fnExactCornerArea", fn := fun _ => fun
  | [d1, d2] => { results := [.lit (.bool false)], args := [d1, d2] }
  | _ => none }
def FnExactCornerAreaWrongFalsely : Prop := fnExactCornerAreaRow.holds Try.pinned (OpenSpec.ofChange fnExactCornerAreaWrong)

/-- 'laws.FnExactCanDrop': WHATEVER THE INPUT: true; the input reads as it did. -/
def fnExactCanDropSpec : ChangeSpec := { name := "fnExactCanDrop", fn := fun _ => fun
  | [d1, d2, d3] => { results := [.lit (.bool true)], args := [d1, d2, d3] }
  | _ => none }
def fnExactCanDropRow : OpenClaim := { program := "ytbnjaaegbmhopab", sum := "678a3abe8faaae88a10a39ac4f026865d9b39a9f638dabaae58affa15cc5dfce", func := "loop.example/g03005/laws.FnExactCanDrop", spec := "fnExactCanDrop", unfollowed := true, recurses := true, apart := false }
def FnExactCanDropSaid : Prop := fnExactCanDropRow.holds Try.pinned (OpenSpec.ofChange fnExactCanDropSpec)

/-- ITS FALSE NEIGHBOUR: 'it returns false'. Refute it at one input. -/
def fnExactCanDropWrong : ChangeSpec := { name := "fnExactCanDrop", fn := fun _ => fun
  | [d1, d2, d3] => { results := [.lit (.bool false)], args := [d1, d2, d3] }
  | _ => none }
def FnExactCanDropWrongFalsely : Prop := fnExactCanDropRow.holds Try.pinned (OpenSpec.ofChange fnExactCanDropWrong)

/-- 'laws.FnExactSafeSimplify': WHATEVER THE INPUT: true; the input reads as it did. -/
def fnExactSafeSimplifySpec : ChangeSpec := { name := "fnExactSafeSimplify", fn := fun _ => fun
  | [d1, d2, d3] => { results := [.lit (.bool true)], args := [d1, d2, d3] }
  | _ => none }
def fnExactSafeSimplifyRow : OpenClaim := { program := "ytbnjaaegbmhopab", sum := "678a3abe8faaae88a10a39ac4f026865d9b39a9f638dabaae58affa15cc5dfce", func := "loop.example/g03005/laws.FnExactSafeSimplify", spec := "fnExactSafeSimplify", unfollowed := true, recurses := true, apart := false }
def FnExactSafeSimplifySaid : Prop := fnExactSafeSimplifyRow.holds Try.pinned (OpenSpec.ofChange fnExactSafeSimplifySpec)

/-- ITS FALSE NEIGHBOUR: 'it returns false'. Refute it at one input. -/
def fnExactSafeSimplifyWrong : ChangeSpec := { name := "fnExactSafeSimplify", fn := fun _ => fun
  | [d1, d2, d3] => { results := [.lit (.bool false)], args := [d1, d2, d3] }
  | _ => none }
def FnExactSafeSimplifyWrongFalsely : Prop := fnExactSafeSimplifyRow.holds Try.pinned (OpenSpec.ofChange fnExactSafeSimplifyWrong)

/-- 'laws.FnExactMeetsAll': WHATEVER THE INPUT: true; the input reads as it did. -/
def fnExactMeetsAllSpec : ChangeSpec := { name := "fnExactMeetsAll", fn := fun _ => fun
  | [d1, d2] => { results := [.lit (.bool true)], args := [d1, d2] }
  | _ => none }
def fnExactMeetsAllRow : OpenClaim := { program := "ytbnjaaegbmhopab", sum := "678a3abe8faaae88a10a39ac4f026865d9b39a9f638dabaae58affa15cc5dfce", func := "loop.example/g03005/laws.FnExactMeetsAll", spec := "fnExactMeetsAll", unfollowed := true, recurses := true, apart := false }
def FnExactMeetsAllSaid : Prop := fnExactMeetsAllRow.holds Try.pinned (OpenSpec.ofChange fnExactMeetsAllSpec)

/-- ITS FALSE NEIGHBOUR: 'it returns false'. Refute it at one input. -/
def fnExactMeetsAllWrong : ChangeSpec := { name := "fnExactMeetsAll", fn := fun _ => fun
  | [d1, d2] => { results := [.lit (.bool false)], args := [d1, d2] }
  | _ => none }
def FnExactMeetsAllWrongFalsely : Prop := fnExactMeetsAllRow.holds Try.pinned (OpenSpec.ofChange fnExactMeetsAllWrong)

/- THE SECOND FORM. 'bulk': how many values and letters a reading holds, each counted each time it is reached (what is shared counts as often as it is met; a slice's spare places count too). A statement '..UptoSaid' is the law's where the arguments, and the package variables that the reading takes, are together of bulk at most 1048576: NARROWER than '..Said'. Prove '..Said' where nothing that the law and all that it calls make is longer than what came in: it says more and counts as full. Else prove '..UptoSaid'. A law counts once. -/
mutual
def uptoBulk {H : Type} : DataW H → Nat
  | .lit (.string bytes) => bytes.length + 1
  | .lit _ => 1
  | .nil => 1
  | .ptr d => uptoBulk d + 1
  | .slice elems spare => uptoBulkAll elems + uptoBulkAll spare + 1
  | .agg parts => uptoBulkAll parts + 1
  | .iface _ d => uptoBulk d + 1
  | .map entries => uptoBulkEntries entries + 1
  | .held _ => 1
def uptoBulkAll {H : Type} : List (DataW H) → Nat
  | [] => 0
  | d :: r => uptoBulk d + uptoBulkAll r
def uptoBulkEntries {H : Type} : List (Lit × DataW H) → Nat
  | [] => 0
  | x :: r => uptoBulkEntry x + uptoBulkEntries r
def uptoBulkEntry {H : Type} : Lit × DataW H → Nat
  | (.string bytes, d) => bytes.length + uptoBulk d + 1
  | (_, d) => uptoBulk d + 1
 end
def uptoSmall : (H : Type) → List (DataW H) → Bool := fun _ ds => decide (uptoBulkAll ds ≤ 1048576)
def OpenSpec.upto (s : _root_.Go.ChangeSpec) : _root_.Go.OpenSpec := { _root_.Go.OpenSpec.ofChange s with cond := some uptoSmall }

/-- 'laws.FnExactCornerArea', WHERE WHAT IT READS IS OF BULK AT MOST 1048576: true; the input reads as it did. -/
def fnExactCornerAreaUptoRow : OpenClaim := { program := "ytbnjaaegbmhopab", sum := "678a3abe8faaae88a10a39ac4f026865d9b39a9f638dabaae58affa15cc5dfce", func := "loop.example/g03005/laws.FnExactCornerArea", spec := "fnExactCornerArea", unfollowed := true, recurses := true, apart := false, narrowed := true }
def FnExactCornerAreaUptoSaid : Prop := fnExactCornerAreaUptoRow.holds Try.pinned (OpenSpec.upto fnExactCornerAreaSpec)

/-- 'laws.FnExactCanDrop', WHERE WHAT IT READS IS OF BULK AT MOST 1048576: true; the input reads as it did. -/
def fnExactCanDropUptoRow : OpenClaim := { program := "ytbnjaaegbmhopab", sum := "678a3abe8faaae88a10a39ac4f026865d9b39a9f638dabaae58affa15cc5dfce", func := "loop.example/g03005/laws.FnExactCanDrop", spec := "fnExactCanDrop", unfollowed := true, recurses := true, apart := false, narrowed := true }
def FnExactCanDropUptoSaid : Prop := fnExactCanDropUptoRow.holds Try.pinned (OpenSpec.upto fnExactCanDropSpec)

/-- 'laws.FnExactSafeSimplify', WHERE WHAT IT READS IS OF BULK AT MOST 1048576: true; the input reads as it did. -/
def fnExactSafeSimplifyUptoRow : OpenClaim := { program := "ytbnjaaegbmhopab", sum := "678a3abe8faaae88a10a39ac4f026865d9b39a9f638dabaae58affa15cc5dfce", func := "loop.example/g03005/laws.FnExactSafeSimplify", spec := "fnExactSafeSimplify", unfollowed := true, recurses := true, apart := false, narrowed := true }
def FnExactSafeSimplifyUptoSaid : Prop := fnExactSafeSimplifyUptoRow.holds Try.pinned (OpenSpec.upto fnExactSafeSimplifySpec)

/-- 'laws.FnExactMeetsAll', WHERE WHAT IT READS IS OF BULK AT MOST 1048576: true; the input reads as it did. -/
def fnExactMeetsAllUptoRow : OpenClaim := { program := "ytbnjaaegbmhopab", sum := "678a3abe8faaae88a10a39ac4f026865d9b39a9f638dabaae58affa15cc5dfce", func := "loop.example/g03005/laws.FnExactMeetsAll", spec := "fnExactMeetsAll", unfollowed := true, recurses := true, apart := false, narrowed := true }
def FnExactMeetsAllUptoSaid : Prop := fnExactMeetsAllUptoRow.holds Try.pinned (OpenSpec.upto fnExactMeetsAllSpec)

end Rows
end Go.Proofs.Ytbnjaaegbmhopab
