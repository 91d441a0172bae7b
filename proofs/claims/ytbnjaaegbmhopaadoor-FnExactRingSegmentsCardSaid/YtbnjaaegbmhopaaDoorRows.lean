/-
  NARROWER THAN 'FOR EVERY INPUT', by the rows' own cells (each row's printed sentence says how): FnExactIsRing: ifaces, laid · FnExactTwiceArea: ifaces, laid · FnExactIsInside: ifaces, laid · FnExactRingSegments: ifaces, laid · FnExactFeaturesMeet: ifaces, laid.
  DERIVED. THE GIVEN ROWS OF THIS SEAT. 5 by the template 'for every input the law returns true; each argument reads behind the call as it read before'; 0 by the template 'total and deterministic' (their statements: YtbnjaaegbmhopaaDoorTotals.lean).
  GIVEN WITH THE SEED: the statements are not yours to turn. If you find one false, say at which input.
  Laid BY PROGRAM, IN A SANDBOX (cutbox-rows.mjs): the forced cells as the released guide's own fill.sh prints them over the translation f7afe52825707d1a… (all of the seat's roots in one cut). By AI agents, Wed Nov 11 2026. No macro, syntax, notation, axiom, sorry.
-/
import Derived.Test.YtbnjaaegbmhopaaDoorChecked
import GoSem.Claim
import GoSem.ClaimJoined
import GoSem.ClaimMapViews
import Derived.JoinedTies
import Derived.KernelRfl
namespace Go.Proofs.YtbnjaaegbmhopaaDoor
/- THE CELL 'sum', in the pinned program and in every row, IS THE sha256 OF THE DUMP (.gsa) THAT YtbnjaaegbmhopaaDoorProg.lean LOADS. Nothing in Lean hashes anything: it is a label: what it is worth is what the hold of that sum in a sandbox is worth. -/
noncomputable def Tryd.pinned : Pinned := { name := "ytbnjaaegbmhopaadoor", sum := "f7afe52825707d1ae7936a2ed04851e0532fc4af5f60978fd2c1313a2319f569", checked := Tryd.checked }
namespace Rows
def none {H : Type} : Left H := { results := [], args := [] }

/- WHAT THE LISTED PACKAGE-LEVEL VARIABLES READ AS WHEN THE CALL BEGINS. Each datum BY PROGRAM (the guide's laid-datum.mjs) off the statement by which the dump's own 'gosem.cut.vars' lays the variable. In a bare row this is a premise. The card (YtbnjaaegbmhopaaDoorCards.lean) ties it to the program's text. -/
def laid_loop_example_g03005_impl_errNoRing {H : Type} : DataW H := .iface "*errors.errorString" (.ptr (.agg [.lit (.string [116, 104, 101, 32, 112, 111, 105, 110, 116, 115, 32, 97, 114, 101, 32, 110, 111, 116, 32, 97, 32, 114, 105, 110, 103])]))

/-- 'laws.FnExactIsRing': WHATEVER THE INPUT: true; the input reads as it did. -/
def fnExactIsRingSpec : ChangeSpec := { name := "fnExactIsRing", vars := ["loop.example/g03005/impl.errNoRing"], fn := fun _ => fun
  | [d, g1] => { results := [.lit (.bool true)], args := [d], vars := [g1] }
  | _ => none }
def fnExactIsRingRow : OpenClaim := { program := "ytbnjaaegbmhopaadoor", sum := "f7afe52825707d1ae7936a2ed04851e0532fc4af5f60978fd2c1313a2319f569", func := "loop.example/g03005/laws.FnExactIsRing", spec := "fnExactIsRing", inPlace := ["internal/reflectlite.TypeOf"], unfollowed := true, recurses := true, named := ["loop.example/g03005/impl.errNoRing"], ifaces := true, apart := false, laid := [("loop.example/g03005/impl.errNoRing", laid_loop_example_g03005_impl_errNoRing)] }
def FnExactIsRingSaid : Prop := fnExactIsRingRow.holds Tryd.pinned (OpenSpec.ofChange fnExactIsRingSpec)

/-- ITS FALSE NEIGHBOUR: 'it returns false'. Refute it at one input. -/
def fnExactIsRingWrong : ChangeSpec := { name := "fnExactIsRing", vars := ["loop.example/g03005/impl.errNoRing"], fn := fun _ => fun
  | [d, g1] => { results := [.lit (.bool false)], args := [d], vars := [g1] }
  | _ => none }
def FnExactIsRingWrongFalsely : Prop := fnExactIsRingRow.holds Tryd.pinned (OpenSpec.ofChange fnExactIsRingWrong)

/-- 'laws.FnExactTwiceArea': WHATEVER THE INPUT: true; the input reads as it did. -/
def fnExactTwiceAreaSpec : ChangeSpec := { name := "fnExactTwiceArea", vars := ["loop.example/g03005/impl.errNoRing"], fn := fun _ => fun
  | [d, g1] => { results := [.lit (.bool true)], args := [d], vars := [g1] }
  | _ => none }
def fnExactTwiceAreaRow : OpenClaim := { program := "ytbnjaaegbmhopaadoor", sum := "f7afe52825707d1ae7936a2ed04851e0532fc4af5f60978fd2c1313a2319f569", func := "loop.example/g03005/laws.FnExactTwiceArea", spec := "fnExactTwiceArea", inPlace := ["internal/reflectlite.TypeOf"], unfollowed := true, recurses := true, named := ["loop.example/g03005/impl.errNoRing"], ifaces := true, apart := false, laid := [("loop.example/g03005/impl.errNoRing", laid_loop_example_g03005_impl_errNoRing)] }
def FnExactTwiceAreaSaid : Prop := fnExactTwiceAreaRow.holds Tryd.pinned (OpenSpec.ofChange fnExactTwiceAreaSpec)

/-- ITS FALSE NEIGHBOUR: 'it returns false'. Refute it at one input. -/
def fnExactTwiceAreaWrong : ChangeSpec := { name := "fnExactTwiceArea", vars := ["loop.example/g03005/impl.errNoRing"], fn := fun _ => fun
  | [d, g1] => { results := [.lit (.bool false)], args := [d], vars := [g1] }
  | _ => none }
def FnExactTwiceAreaWrongFalsely : Prop := fnExactTwiceAreaRow.holds Tryd.pinned (OpenSpec.ofChange fnExactTwiceAreaWrong)

/-- 'laws.FnExactIsInside': WHATEVER THE INPUT: true; the input reads as it did. -/
def fnExactIsInsideSpec : ChangeSpec := { name := "fnExactIsInside", vars := ["loop.example/g03005/impl.errNoRing"], fn := fun _ => fun
  | [d1, d2, g1] => { results := [.lit (.bool true)], args := [d1, d2], vars := [g1] }
  | _ => none }
def fnExactIsInsideRow : OpenClaim := { program := "ytbnjaaegbmhopaadoor", sum := "f7afe52825707d1ae7936a2ed04851e0532fc4af5f60978fd2c1313a2319f569", func := "loop.example/g03005/laws.FnExactIsInside", spec := "fnExactIsInside", inPlace := ["internal/reflectlite.TypeOf"], unfollowed := true, recurses := true, named := ["loop.example/g03005/impl.errNoRing"], ifaces := true, apart := false, laid := [("loop.example/g03005/impl.errNoRing", laid_loop_example_g03005_impl_errNoRing)] }
def FnExactIsInsideSaid : Prop := fnExactIsInsideRow.holds Tryd.pinned (OpenSpec.ofChange fnExactIsInsideSpec)

/-- ITS FALSE NEIGHBOUR: 'it returns false'. Refute it at one input. -/
def fnExactIsInsideWrong : ChangeSpec := { name := "fnExactIsInside", vars := ["loop.example/g03005/impl.errNoRing"], fn := fun _ => fun
  | [d1, d2, g1] => { results := [.lit (.bool false)], args := [d1, d2], vars := [g1] }
  | _ => none }
def FnExactIsInsideWrongFalsely : Prop := fnExactIsInsideRow.holds Tryd.pinned (OpenSpec.ofChange fnExactIsInsideWrong)

/-- 'laws.FnExactRingSegments': WHATEVER THE INPUT: true; the input reads as it did. -/
def fnExactRingSegmentsSpec : ChangeSpec := { name := "fnExactRingSegments", vars := ["loop.example/g03005/impl.errNoRing"], fn := fun _ => fun
  | [d, g1] => { results := [.lit (.bool true)], args := [d], vars := [g1] }
  | _ => none }
def fnExactRingSegmentsRow : OpenClaim := { program := "ytbnjaaegbmhopaadoor", sum := "f7afe52825707d1ae7936a2ed04851e0532fc4af5f60978fd2c1313a2319f569", func := "loop.example/g03005/laws.FnExactRingSegments", spec := "fnExactRingSegments", inPlace := ["internal/reflectlite.TypeOf"], unfollowed := true, recurses := true, named := ["loop.example/g03005/impl.errNoRing"], ifaces := true, apart := false, laid := [("loop.example/g03005/impl.errNoRing", laid_loop_example_g03005_impl_errNoRing)] }
def FnExactRingSegmentsSaid : Prop := fnExactRingSegmentsRow.holds Tryd.pinned (OpenSpec.ofChange fnExactRingSegmentsSpec)

/-- ITS FALSE NEIGHBOUR: 'it returns false'. Refute it at one input. -/
def fnExactRingSegmentsWrong : ChangeSpec := { name := "fnExactRingSegments", vars := ["loop.example/g03005/impl.errNoRing"], fn := fun _ => fun
  | [d, g1] => { results := [.lit (.bool false)], args := [d], vars := [g1] }
  | _ => none }
def FnExactRingSegmentsWrongFalsely : Prop := fnExactRingSegmentsRow.holds Tryd.pinned (OpenSpec.ofChange fnExactRingSegmentsWrong)

/-- 'laws.FnExactFeaturesMeet': WHATEVER THE INPUT: true; the input reads as it did. -/
def fnExactFeaturesMeetSpec : ChangeSpec := { name := "fnExactFeaturesMeet", vars := ["loop.example/g03005/impl.errNoRing"], fn := fun _ => fun
  | [d1, d2, g1] => { results := [.lit (.bool true)], args := [d1, d2], vars := [g1] }
  | _ => none }
def fnExactFeaturesMeetRow : OpenClaim := { program := "ytbnjaaegbmhopaadoor", sum := "f7afe52825707d1ae7936a2ed04851e0532fc4af5f60978fd2c1313a2319f569", func := "loop.example/g03005/laws.FnExactFeaturesMeet", spec := "fnExactFeaturesMeet", inPlace := ["internal/reflectlite.TypeOf"], unfollowed := true, recurses := true, named := ["loop.example/g03005/impl.errNoRing"], ifaces := true, apart := false, laid := [("loop.example/g03005/impl.errNoRing", laid_loop_example_g03005_impl_errNoRing)] }
def FnExactFeaturesMeetSaid : Prop := fnExactFeaturesMeetRow.holds Tryd.pinned (OpenSpec.ofChange fnExactFeaturesMeetSpec)

/-- ITS FALSE NEIGHBOUR: 'it returns false'. Refute it at one input. -/
def fnExactFeaturesMeetWrong : ChangeSpec := { name := "fnExactFeaturesMeet", vars := ["loop.example/g03005/impl.errNoRing"], fn := fun _ => fun
  | [d1, d2, g1] => { results := [.lit (.bool false)], args := [d1, d2], vars := [g1] }
  | _ => none }
def FnExactFeaturesMeetWrongFalsely : Prop := fnExactFeaturesMeetRow.holds Tryd.pinned (OpenSpec.ofChange fnExactFeaturesMeetWrong)

/- THE SECOND FORM. 'bulk': how many values and letters a reading holds, each counted each time it is reached (what is shared counts as often as it is met; a slice's spare places count too). A statement '..UptoSaid' is the law's where the arguments, and the package variables that the reading takes, are together of bulk at most 1048576: NARROWER than '..Said'. Prove '..Said' where nothing that the law and all that it calls make is longer than what came in: it says more and counts as full. Else prove '..UptoSaid'. A law counts once. -/
mutual
def uptoBulk {H : Type} : DataW H → Nat
  | .lit (.string bytes) => bytes.length + 1
  | .lit _ => 1
  | .nil => 1
  | .ptr d => uptoBulk d + 1
  | .slice elems spare => uptoBulkAll elems + uptoBulkAll spare + 1
  | .agg parts => uptoBulkAll parts + 1
  | .iface _ d => uptoBulk d + 1
  | .map entries => uptoBulkEntries entries + 1
  | .held _ => 1
def uptoBulkAll {H : Type} : List (DataW H) → Nat
  | [] => 0
  | d :: r => uptoBulk d + uptoBulkAll r
def uptoBulkEntries {H : Type} : List (Lit × DataW H) → Nat
  | [] => 0
  | x :: r => uptoBulkEntry x + uptoBulkEntries r
def uptoBulkEntry {H : Type} : Lit × DataW H → Nat
  | (.string bytes, d) => bytes.length + uptoBulk d + 1
  | (_, d) => uptoBulk d + 1
 end
def uptoSmall : (H : Type) → List (DataW H) → Bool := fun _ ds => decide (uptoBulkAll ds ≤ 1048576)
def OpenSpec.upto (s : _root_.Go.ChangeSpec) : _root_.Go.OpenSpec := { _root_.Go.OpenSpec.ofChange s with cond := some uptoSmall }

/-- 'laws.FnExactIsRing', WHERE WHAT IT READS IS OF BULK AT MOST 1048576: true; the input reads as it did. -/
def fnExactIsRingUptoRow : OpenClaim := { program := "ytbnjaaegbmhopaadoor", sum := "f7afe52825707d1ae7936a2ed04851e0532fc4af5f60978fd2c1313a2319f569", func := "loop.example/g03005/laws.FnExactIsRing", spec := "fnExactIsRing", inPlace := ["internal/reflectlite.TypeOf"], unfollowed := true, recurses := true, named := ["loop.example/g03005/impl.errNoRing"], ifaces := true, apart := false, laid := [("loop.example/g03005/impl.errNoRing", laid_loop_example_g03005_impl_errNoRing)], narrowed := true }
def FnExactIsRingUptoSaid : Prop := fnExactIsRingUptoRow.holds Tryd.pinned (OpenSpec.upto fnExactIsRingSpec)

/-- 'laws.FnExactTwiceArea', WHERE WHAT IT READS IS OF BULK AT MOST 1048576: true; the input reads as it did. -/
def fnExactTwiceAreaUptoRow : OpenClaim := { program := "ytbnjaaegbmhopaadoor", sum := "f7afe52825707d1ae7936a2ed04851e0532fc4af5f60978fd2c1313a2319f569", func := "loop.example/g03005/laws.FnExactTwiceArea", spec := "fnExactTwiceArea", inPlace := ["internal/reflectlite.TypeOf"], unfollowed := true, recurses := true, named := ["loop.example/g03005/impl.errNoRing"], ifaces := true, apart := false, laid := [("loop.example/g03005/impl.errNoRing", laid_loop_example_g03005_impl_errNoRing)], narrowed := true }
def FnExactTwiceAreaUptoSaid : Prop := fnExactTwiceAreaUptoRow.holds Tryd.pinned (OpenSpec.upto fnExactTwiceAreaSpec)

/-- 'laws.FnExactIsInside', WHERE WHAT IT READS IS OF BULK AT MOST 1048576: true; the input reads as it did. -/
def fnExactIsInsideUptoRow : OpenClaim := { program := "ytbnjaaegbmhopaadoor", sum := "f7afe52825707d1ae7936a2ed04851e0532fc4af5f60978fd2c1313a2319f569", func := "loop.example/g03005/laws.FnExactIsInside", spec := "fnExactIsInside", inPlace := ["internal/reflectlite.TypeOf"], unfollowed := true, recurses := true, named := ["loop.example/g03005/impl.errNoRing"], ifaces := true, apart := false, laid := [("loop.example/g03005/impl.errNoRing", laid_loop_example_g03005_impl_errNoRing)], narrowed := true }
def FnExactIsInsideUptoSaid : Prop := fnExactIsInsideUptoRow.holds Tryd.pinned (OpenSpec.upto fnExactIsInsideSpec)

/-- 'laws.FnExactRingSegments', WHERE WHAT IT READS IS OF BULK AT MOST 1048576: true; the input reads as it did. -/
def fnExactRingSegmentsUptoRow : OpenClaim := { program := "ytbnjaaegbmhopaadoor", sum := "f7afe52825707d1ae7936a2ed04851e0532fc4af5f60978fd2c1313a2319f569", func := "loop.example/g03005/laws.FnExactRingSegments", spec := "fnExactRingSegments", inPlace := ["internal/reflectlite.TypeOf"], unfollowed := true, recurses := true, named := ["loop.example/g03005/impl.errNoRing"], ifaces := true, apart := false, laid := [("loop.example/g03005/impl.errNoRing", laid_loop_example_g03005_impl_errNoRing)], narrowed := true }
def FnExactRingSegmentsUptoSaid : Prop := fnExactRingSegmentsUptoRow.holds Tryd.pinned (OpenSpec.upto fnExactRingSegmentsSpec)

/-- 'laws.FnExactFeaturesMeet', WHERE WHAT IT READS IS OF BULK AT MOST 1048576: true; the input reads as it did. -/
def fnExactFeaturesMeetUptoRow : OpenClaim := { program := "ytbnjaaegbmhopaadoor", sum := "f7afe52825707d1ae7936a2ed04851e0532fc4af5f60978fd2c1313a2319f569", func := "loop.example/g03005/laws.FnExactFeaturesMeet", spec := "fnExactFeaturesMeet", inPlace := ["internal/reflectlite.TypeOf"], unfollowed := true, recurses := true, named := ["loop.example/g03005/impl.errNoRing"], ifaces := true, apart := false, laid := [("loop.example/g03005/impl.errNoRing", laid_loop_example_g03005_impl_errNoRing)], narrowed := true }
def FnExactFeaturesMeetUptoSaid : Prop := fnExactFeaturesMeetUptoRow.holds Tryd.pinned (OpenSpec.upto fnExactFeaturesMeetSpec)

end Rows
end Go.Proofs.YtbnjaaegbmhopaaDoor
