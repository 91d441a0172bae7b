/-
  NARROWER THAN 'FOR EVERY INPUT', by the rows' own cells (each row's printed sentence says how): FnRings: ifaces, laid · FnMeets: ifaces, laid · FnExactPartsOf: ifaces, laid · FnExactMeetsOf: ifaces, laid.
  DERIVED. THE GIVEN ROWS OF THIS SEAT. 4 by the template 'for every input the law returns true; each argument reads behind the call as it read before'; 0 by the template 'total and deterministic' (their statements: YtbnjaaegbmhopaaGreatDoorTotals.lean).
  GIVEN WITH THE SEED: the statements are not yours to turn. If you find one false, say at which input.
  Laid BY PROGRAM, IN A SANDBOX (cutbox-rows.mjs): the forced cells as the released guide's own fill.sh prints them over the translation e25b7f20dfba9471… (all of the seat's roots in one cut). By AI agents, Wed Nov 11 2026. No macro, syntax, notation, axiom, sorry.
-/
import Derived.Test.YtbnjaaegbmhopaaGreatDoorChecked
import GoSem.Claim
import GoSem.ClaimJoined
import GoSem.ClaimMapViews
import Derived.JoinedTies
import Derived.KernelRfl
namespace Go.Proofs.YtbnjaaegbmhopaaGreatDoor
/- THE CELL 'sum', in the pinned program and in every row, IS THE sha256 OF THE DUMP (.gsa) THAT YtbnjaaegbmhopaaGreatDoorProg.lean LOADS. Nothing in Lean hashes anything: it is a label: what it is worth is what the hold of that sum in a sandbox is worth. -/
noncomputable def Tryz.pinned : Pinned := { name := "ytbnjaaegbmhopaagreatdoor", sum := "e25b7f20dfba9471cce2a4aaa66353f57ad0746cb11c4fcf73495f651a52de52", checked := Tryz.checked }
namespace Rows
def none {H : Type} : Left H := { results := [], args := [] }

/- WHAT THE LISTED PACKAGE-LEVEL VARIABLES READ AS WHEN THE CALL BEGINS. Each datum BY PROGRAM (the guide's laid-datum.mjs) off the statement by which the dump's own 'gosem.cut.vars' lays the variable. In a bare row this is a premise. The card (YtbnjaaegbmhopaaGreatDoorCards.lean) ties it to the program's text. -/
def laid_loop_example_g03005_impl_errNoRing {H : Type} : DataW H := .iface "*errors.errorString" (.ptr (.agg [.lit (.string [116, 104, 101, 32, 112, 111, 105, 110, 116, 115, 32, 97, 114, 101, 32, 110, 111, 116, 32, 97, 32, 114, 105, 110, 103])]))

/-- 'laws.FnRings': WHATEVER THE INPUT: true; the input reads as it did. -/
def fnRingsSpec : ChangeSpec := { name := "fnRings", vars := ["loop.example/g03005/impl.errNoRing"], fn := fun _ => fun
  | [d, g1] => { results := [.lit (.bool true)], args := [d], vars := [g1] }
  | _ => none }
def fnRingsRow : OpenClaim := { program := "ytbnjaaegbmhopaagreatdoor", sum := "e25b7f20dfba9471cce2a4aaa66353f57ad0746cb11c4fcf73495f651a52de52", func := "loop.example/g03005/laws.FnRings", spec := "fnRings", inPlace := ["internal/reflectlite.TypeOf"], unfollowed := true, recurses := true, named := ["loop.example/g03005/impl.errNoRing"], ifaces := true, apart := false, laid := [("loop.example/g03005/impl.errNoRing", laid_loop_example_g03005_impl_errNoRing)] }
def FnRingsSaid : Prop := fnRingsRow.holds Tryz.pinned (OpenSpec.ofChange fnRingsSpec)

/-- ITS FALSE NEIGHBOUR: 'it returns false'. Refute it at one input. -/
def fnRingsWrong : ChangeSpec := { name := "fnRings", vars := ["loop.example/g03005/impl.errNoRing"], fn := fun _ => fun
  | [d, g1] => { results := [.lit (.bool false)], args := [d], vars := [g1] }
  | _ => none }
def FnRingsWrongFalsely : Prop := fnRingsRow.holds Tryz.pinned (OpenSpec.ofChange fnRingsWrong)

/-- 'laws.FnMeets': WHATEVER THE INPUT: true; the input reads as it did. -/
def fnMeetsSpec : ChangeSpec := { name := "fnMeets", vars := ["loop.example/g03005/impl.errNoRing"], fn := fun _ => fun
  | [d, g1] => { results := [.lit (.bool true)], args := [d], vars := [g1] }
  | _ => none }
def fnMeetsRow : OpenClaim := { program := "ytbnjaaegbmhopaagreatdoor", sum := "e25b7f20dfba9471cce2a4aaa66353f57ad0746cb11c4fcf73495f651a52de52", func := "loop.example/g03005/laws.FnMeets", spec := "fnMeets", inPlace := ["internal/reflectlite.TypeOf"], unfollowed := true, recurses := true, named := ["loop.example/g03005/impl.errNoRing"], ifaces := true, apart := false, laid := [("loop.example/g03005/impl.errNoRing", laid_loop_example_g03005_impl_errNoRing)] }
def FnMeetsSaid : Prop := fnMeetsRow.holds Tryz.pinned (OpenSpec.ofChange fnMeetsSpec)

/-- ITS FALSE NEIGHBOUR: 'it returns false'. Refute it at one input. -/
def fnMeetsWrong : ChangeSpec := { name := "fnMeets", vars := ["loop.example/g03005/impl.errNoRing"], fn := fun _ => fun
  | [d, g1] => { results := [.lit (.bool false)], args := [d], vars := [g1] }
  | _ => none }
def FnMeetsWrongFalsely : Prop := fnMeetsRow.holds Tryz.pinned (OpenSpec.ofChange fnMeetsWrong)

/-- 'laws.FnExactPartsOf': WHATEVER THE INPUT: true; the input reads as it did. -/
def fnExactPartsOfSpec : ChangeSpec := { name := "fnExactPartsOf", vars := ["loop.example/g03005/impl.errNoRing"], fn := fun _ => fun
  | [d, g1] => { results := [.lit (.bool true)], args := [d], vars := [g1] }
  | _ => none }
def fnExactPartsOfRow : OpenClaim := { program := "ytbnjaaegbmhopaagreatdoor", sum := "e25b7f20dfba9471cce2a4aaa66353f57ad0746cb11c4fcf73495f651a52de52", func := "loop.example/g03005/laws.FnExactPartsOf", spec := "fnExactPartsOf", inPlace := ["internal/reflectlite.TypeOf"], unfollowed := true, recurses := true, named := ["loop.example/g03005/impl.errNoRing"], ifaces := true, apart := false, laid := [("loop.example/g03005/impl.errNoRing", laid_loop_example_g03005_impl_errNoRing)] }
def FnExactPartsOfSaid : Prop := fnExactPartsOfRow.holds Tryz.pinned (OpenSpec.ofChange fnExactPartsOfSpec)

/-- ITS FALSE NEIGHBOUR: 'it returns false'. Refute it at one input. -/
def fnExactPartsOfWrong : ChangeSpec := { name := "fnExactPartsOf", vars := ["loop.example/g03005/impl.errNoRing"], fn := fun _ => fun
  | [d, g1] => { results := [.lit (.bool false)], args := [d], vars := [g1] }
  | _ => none }
def FnExactPartsOfWrongFalsely : Prop := fnExactPartsOfRow.holds Tryz.pinned (OpenSpec.ofChange fnExactPartsOfWrong)

/-- 'laws.FnExactMeetsOf': WHATEVER THE INPUT: true; the input reads as it did. -/
def fnExactMeetsOfSpec : ChangeSpec := { name := "fnExactMeetsOf", vars := ["loop.example/g03005/impl.errNoRing"], fn := fun _ => fun
  | [d, g1] => { results := [.lit (.bool true)], args := [d], vars := [g1] }
  | _ => none }
def fnExactMeetsOfRow : OpenClaim := { program := "ytbnjaaegbmhopaagreatdoor", sum := "e25b7f20dfba9471cce2a4aaa66353f57ad0746cb11c4fcf73495f651a52de52", func := "loop.example/g03005/laws.FnExactMeetsOf", spec := "fnExactMeetsOf", inPlace := ["internal/reflectlite.TypeOf"], unfollowed := true, recurses := true, named := ["loop.example/g03005/impl.errNoRing"], ifaces := true, apart := false, laid := [("loop.example/g03005/impl.errNoRing", laid_loop_example_g03005_impl_errNoRing)] }
def FnExactMeetsOfSaid : Prop := fnExactMeetsOfRow.holds Tryz.pinned (OpenSpec.ofChange fnExactMeetsOfSpec)

/-- ITS FALSE NEIGHBOUR: 'it returns false'. Refute it at one input. -/
def fnExactMeetsOfWrong : ChangeSpec := { name := "fnExactMeetsOf", vars := ["loop.example/g03005/impl.errNoRing"], fn := fun _ => fun
  | [d, g1] => { results := [.lit (.bool false)], args := [d], vars := [g1] }
  | _ => none }
def FnExactMeetsOfWrongFalsely : Prop := fnExactMeetsOfRow.holds Tryz.pinned (OpenSpec.ofChange fnExactMeetsOfWrong)

/- THE SECOND FORM. 'bulk': how many values and letters a reading holds, each counted each time it is reached (what is shared counts as often as it is met; a slice's spare places count too). A statement '..UptoSaid' is the law's where the arguments, and the package variables that the reading takes, are together of bulk at most 1048576: NARROWER than '..Said'. Prove '..Said' where nothing that the law and all that it calls make is longer than what came in: it says more and counts as full. Else prove '..UptoSaid'. A law counts once. -/
mutual
def uptoBulk {H : Type} : DataW H → Nat
  | .lit (.string bytes) => bytes.length + 1
  | .lit _ => 1
  | .nil => 1
  | .ptr d => uptoBulk d + 1
  | .slice elems spare => uptoBulkAll elems + uptoBulkAll spare + 1
  | .agg parts => uptoBulkAll parts + 1
  | .iface _ d => uptoBulk d + 1
  | .map entries => uptoBulkEntries entries + 1
  | .held _ => 1
def uptoBulkAll {H : Type} : List (DataW H) → Nat
  | [] => 0
  | d :: r => uptoBulk d + uptoBulkAll r
def uptoBulkEntries {H : Type} : List (Lit × DataW H) → Nat
  | [] => 0
  | x :: r => uptoBulkEntry x + uptoBulkEntries r
def uptoBulkEntry {H : Type} : Lit × DataW H → Nat
  | (.string bytes, d) => bytes.length + uptoBulk d + 1
  | (_, d) => uptoBulk d + 1
 end
def uptoSmall : (H : Type) → List (DataW H) → Bool := fun _ ds => decide (uptoBulkAll ds ≤ 1048576)
def OpenSpec.upto (s : _root_.Go.ChangeSpec) : _root_.Go.OpenSpec := { _root_.Go.OpenSpec.ofChange s with cond := some uptoSmall }

/-- 'laws.FnRings', WHERE WHAT IT READS IS OF BULK AT MOST 1048576: true; the input reads as it did. -/
def fnRingsUptoRow : OpenClaim := { program := "ytbnjaaegbmhopaagreatdoor", sum := "e25b7f20dfba9471cce2a4aaa66353f57ad0746cb11c4fcf73495f651a52de52", func := "loop.example/g03005/laws.FnRings", spec := "fnRings", inPlace := ["internal/reflectlite.TypeOf"], unfollowed := true, recurses := true, named := ["loop.example/g03005/impl.errNoRing"], ifaces := true, apart := false, laid := [("loop.example/g03005/impl.errNoRing", laid_loop_example_g03005_impl_errNoRing)], narrowed := true }
def FnRingsUptoSaid : Prop := fnRingsUptoRow.holds Tryz.pinned (OpenSpec.upto fnRingsSpec)

/-- 'laws.FnMeets', WHERE WHAT IT READS IS OF BULK AT MOST 1048576: true; the input reads as it did. -/
def fnMeetsUptoRow : OpenClaim := { program := "ytbnjaaegbmhopaagreatdoor", sum := "e25b7f20dfba9471cce2a4aaa66353f57ad0746cb11c4fcf73495f651a52de52", func := "loop.example/g03005/laws.FnMeets", spec := "fnMeets", inPlace := ["internal/reflectlite.TypeOf"], unfollowed := true, recurses := true, named := ["loop.example/g03005/impl.errNoRing"], ifaces := true, apart := false, laid := [("loop.example/g03005/impl.errNoRing", laid_loop_example_g03005_impl_errNoRing)], narrowed := true }
def FnMeetsUptoSaid : Prop := fnMeetsUptoRow.holds Tryz.pinned (OpenSpec.upto fnMeetsSpec)

/-- 'laws.FnExactPartsOf', WHERE WHAT IT READS IS OF BULK AT MOST 1048576: true; the input reads as it did. -/
def fnExactPartsOfUptoRow : OpenClaim := { program := "ytbnjaaegbmhopaagreatdoor", sum := "e25b7f20dfba9471cce2a4aaa66353f57ad0746cb11c4fcf73495f651a52de52", func := "loop.example/g03005/laws.FnExactPartsOf", spec := "fnExactPartsOf", inPlace := ["internal/reflectlite.TypeOf"], unfollowed := true, recurses := true, named := ["loop.example/g03005/impl.errNoRing"], ifaces := true, apart := false, laid := [("loop.example/g03005/impl.errNoRing", laid_loop_example_g03005_impl_errNoRing)], narrowed := true }
def FnExactPartsOfUptoSaid : Prop := fnExactPartsOfUptoRow.holds Tryz.pinned (OpenSpec.upto fnExactPartsOfSpec)

/-- 'laws.FnExactMeetsOf', WHERE WHAT IT READS IS OF BULK AT MOST 1048576: true; the input reads as it did. -/
def fnExactMeetsOfUptoRow : OpenClaim := { program := "ytbnjaaegbmhopaagreatdoor", sum := "e25b7f20dfba9471cce2a4aaa66353f57ad0746cb11c4fcf73495f651a52de52", func := "loop.example/g03005/laws.FnExactMeetsOf", spec := "fnExactMeetsOf", inPlace := ["internal/reflectlite.TypeOf"], unfollowed := true, recurses := true, named := ["loop.example/g03005/impl.errNoRing"], ifaces := true, apart := false, laid := [("loop.example/g03005/impl.errNoRing", laid_loop_example_g03005_impl_errNoRing)], narrowed := true }
def FnExactMeetsOfUptoSaid : Prop := fnExactMeetsOfUptoRow.holds Tryz.pinned (OpenSpec.upto fnExactMeetsOfSpec)

end Rows
end Go.Proofs.YtbnjaaegbmhopaaGreatDoor
