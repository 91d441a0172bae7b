/-
  NARROWER THAN 'FOR EVERY INPUT', by the rows' own cells (each row's printed sentence says how): FnSimplified: ifaces, laid · FnExactSimplifyLine: ifaces, laid · FnExactCountLeftOut: ifaces, laid.
  DERIVED. THE GIVEN ROWS OF THIS SEAT. 3 by the template 'for every input the law returns true; each argument reads behind the call as it read before'; 0 by the template 'total and deterministic' (their statements: YtpbmngbigdaklaaDoorTotals.lean).
  GIVEN WITH THE SEED: the statements are not yours to turn. If you find one false, say at which input.
  Laid BY PROGRAM, IN A SANDBOX (cutbox-rows.mjs): the forced cells as the released guide's own fill.sh prints them over the translation 6353acbdc38e90ef… (all of the seat's roots in one cut). By AI agents, Wed Nov 11 2026. No macro, syntax, notation, axiom, sorry.
-/
import Derived.Test.YtpbmngbigdaklaaDoorChecked
import GoSem.Claim
import GoSem.ClaimJoined
import GoSem.ClaimMapViews
import Derived.JoinedTies
import Derived.KernelRfl
namespace Go.Proofs.YtpbmngbigdaklaaDoor
/- THE CELL 'sum', in the pinned program and in every row, IS THE sha256 OF THE DUMP (.gsa) THAT YtpbmngbigdaklaaDoorProg.lean LOADS. Nothing in Lean hashes anything: it is a label: what it is worth is what the hold of that sum in a sandbox is worth. -/
noncomputable def Tryd.pinned : Pinned := { name := "ytpbmngbigdaklaadoor", sum := "6353acbdc38e90ef54e3bede5a9c0fcc601510969134e9ea0a46a3bb12a573ba", checked := Tryd.checked }
namespace Rows
def none {H : Type} : Left H := { results := [], args := [] }

/- WHAT THE LISTED PACKAGE-LEVEL VARIABLES READ AS WHEN THE CALL BEGINS. Each datum BY PROGRAM (the guide's laid-datum.mjs) off the statement by which the dump's own 'gosem.cut.vars' lays the variable. In a bare row this is a premise. The card (YtpbmngbigdaklaaDoorCards.lean) ties it to the program's text. -/
def laid_loop_example_g03005_impl_errNotSimpler {H : Type} : DataW H := .iface "*errors.errorString" (.ptr (.agg [.lit (.string [116, 104, 101, 32, 108, 105, 110, 101, 32, 99, 97, 110, 110, 111, 116, 32, 98, 101, 32, 109, 97, 100, 101, 32, 115, 105, 109, 112, 108, 101, 114])]))

/-- 'laws.FnSimplified': WHATEVER THE INPUT: true; the input reads as it did. -/
def fnSimplifiedSpec : ChangeSpec := { name := "fnSimplified", vars := ["loop.example/g03005/impl.errNotSimpler"], fn := fun _ => fun
  | [d, g1] => { results := [.lit (.bool true)], args := [d], vars := [g1] }
  | _ => none }
def fnSimplifiedRow : OpenClaim := { program := "ytpbmngbigdaklaadoor", sum := "6353acbdc38e90ef54e3bede5a9c0fcc601510969134e9ea0a46a3bb12a573ba", func := "loop.example/g03005/laws.FnSimplified", spec := "fnSimplified", unfollowed := true, recurses := true, named := ["loop.example/g03005/impl.errNotSimpler"], ifaces := true, apart := false, laid := [("loop.example/g03005/impl.errNotSimpler", laid_loop_example_g03005_impl_errNotSimpler)] }
def FnSimplifiedSaid : Prop := fnSimplifiedRow.holds Tryd.pinned (OpenSpec.ofChange fnSimplifiedSpec)

/-- ITS FALSE NEIGHBOUR: 'it returns false'. Refute it at one input. -/
def fnSimplifiedWrong : ChangeSpec := { name := "fnSimplified", vars := ["loop.example/g03005/impl.errNotSimpler"], fn := fun _ => fun
  | [d, g1] => { results := [.lit (.bool false)], args := [d], vars := [g1] }
  | _ => none }
def FnSimplifiedWrongFalsely : Prop := fnSimplifiedRow.holds Tryd.pinned (OpenSpec.ofChange fnSimplifiedWrong)

/-- 'laws.FnExactSimplifyLine': WHATEVER THE INPUT: true; the input reads as it did. -/
def fnExactSimplifyLineSpec : ChangeSpec := { name := "fnExactSimplifyLine", vars := ["loop.example/g03005/impl.errNotSimpler"], fn := fun _ => fun
  | [d1, d2, g1] => { results := [.lit (.bool true)], args := [d1, d2], vars := [g1] }
  | _ => none }
def fnExactSimplifyLineRow : OpenClaim := { program := "ytpbmngbigdaklaadoor", sum := "6353acbdc38e90ef54e3bede5a9c0fcc601510969134e9ea0a46a3bb12a573ba", func := "loop.example/g03005/laws.FnExactSimplifyLine", spec := "fnExactSimplifyLine", unfollowed := true, recurses := true, named := ["loop.example/g03005/impl.errNotSimpler"], ifaces := true, apart := false, laid := [("loop.example/g03005/impl.errNotSimpler", laid_loop_example_g03005_impl_errNotSimpler)] }
def FnExactSimplifyLineSaid : Prop := fnExactSimplifyLineRow.holds Tryd.pinned (OpenSpec.ofChange fnExactSimplifyLineSpec)

/-- ITS FALSE NEIGHBOUR: 'it returns false'. Refute it at one input. -/
def fnExactSimplifyLineWrong : ChangeSpec := { name := "fnExactSimplifyLine", vars := ["loop.example/g03005/impl.errNotSimpler"], fn := fun _ => fun
  | [d1, d2, g1] => { results := [.lit (.bool false)], args := [d1, d2], vars := [g1] }
  | _ => none }
def FnExactSimplifyLineWrongFalsely : Prop := fnExactSimplifyLineRow.holds Tryd.pinned (OpenSpec.ofChange fnExactSimplifyLineWrong)

/-- 'laws.FnExactCountLeftOut': WHATEVER THE INPUT: true; the input reads as it did. -/
def fnExactCountLeftOutSpec : ChangeSpec := { name := "fnExactCountLeftOut", vars := ["loop.example/g03005/impl.errNotSimpler"], fn := fun _ => fun
  | [d1, d2, g1] => { results := [.lit (.bool true)], args := [d1, d2], vars := [g1] }
  | _ => none }
def fnExactCountLeftOutRow : OpenClaim := { program := "ytpbmngbigdaklaadoor", sum := "6353acbdc38e90ef54e3bede5a9c0fcc601510969134e9ea0a46a3bb12a573ba", func := "loop.example/g03005/laws.FnExactCountLeftOut", spec := "fnExactCountLeftOut", unfollowed := true, recurses := true, named := ["loop.example/g03005/impl.errNotSimpler"], ifaces := true, apart := false, laid := [("loop.example/g03005/impl.errNotSimpler", laid_loop_example_g03005_impl_errNotSimpler)] }
def FnExactCountLeftOutSaid : Prop := fnExactCountLeftOutRow.holds Tryd.pinned (OpenSpec.ofChange fnExactCountLeftOutSpec)

/-- ITS FALSE NEIGHBOUR: 'it returns false'. Refute it at one input. -/
def fnExactCountLeftOutWrong : ChangeSpec := { name := "fnExactCountLeftOut", vars := ["loop.example/g03005/impl.errNotSimpler"], fn := fun _ => fun
  | [d1, d2, g1] => { results := [.lit (.bool false)], args := [d1, d2], vars := [g1] }
  | _ => none }
def FnExactCountLeftOutWrongFalsely : Prop := fnExactCountLeftOutRow.holds Tryd.pinned (OpenSpec.ofChange fnExactCountLeftOutWrong)

/- THE SECOND FORM. 'bulk': how many values and letters a reading holds, each counted each time it is reached (what is shared counts as often as it is met; a slice's spare places count too). A statement '..UptoSaid' is the law's where the arguments, and the package variables that the reading takes, are together of bulk at most 1048576: NARROWER than '..Said'. Prove '..Said' where nothing that the law and all that it calls make is longer than what came in: it says more and counts as full. Else prove '..UptoSaid'. A law counts once. -/
mutual
def uptoBulk {H : Type} : DataW H → Nat
  | .lit (.string bytes) => bytes.length + 1
  | .lit _ => 1
  | .nil => 1
  | .ptr d => uptoBulk d + 1
  | .slice elems spare => uptoBulkAll elems + uptoBulkAll spare + 1
  | .agg parts => uptoBulkAll parts + 1
  | .iface _ d => uptoBulk d + 1
  | .map entries => uptoBulkEntries entries + 1
  | .held _ => 1
def uptoBulkAll {H : Type} : List (DataW H) → Nat
  | [] => 0
  | d :: r => uptoBulk d + uptoBulkAll r
def uptoBulkEntries {H : Type} : List (Lit × DataW H) → Nat
  | [] => 0
  | x :: r => uptoBulkEntry x + uptoBulkEntries r
def uptoBulkEntry {H : Type} : Lit × DataW H → Nat
  | (.string bytes, d) => bytes.length + uptoBulk d + 1
  | (_, d) => uptoBulk d + 1
 end
def uptoSmall : (H : Type) → List (DataW H) → Bool := fun _ ds => decide (uptoBulkAll ds ≤ 1048576)
def OpenSpec.upto (s : _root_.Go.ChangeSpec) : _root_.Go.OpenSpec := { _root_.Go.OpenSpec.ofChange s with cond := some uptoSmall }

/-- 'laws.FnSimplified', WHERE WHAT IT READS IS OF BULK AT MOST 1048576: true; the input reads as it did. -/
def fnSimplifiedUptoRow : OpenClaim := { program := "ytpbmngbigdaklaadoor", sum := "6353acbdc38e90ef54e3bede5a9c0fcc601510969134e9ea0a46a3bb12a573ba", func := "loop.example/g03005/laws.FnSimplified", spec := "fnSimplified", unfollowed := true, recurses := true, named := ["loop.example/g03005/impl.errNotSimpler"], ifaces := true, apart := false, laid := [("loop.example/g03005/impl.errNotSimpler", laid_loop_example_g03005_impl_errNotSimpler)], narrowed := true }
def FnSimplifiedUptoSaid : Prop := fnSimplifiedUptoRow.holds Tryd.pinned (OpenSpec.upto fnSimplifiedSpec)

/-- 'laws.FnExactSimplifyLine', WHERE WHAT IT READS IS OF BULK AT MOST 1048576: true; the input reads as it did. -/
def fnExactSimplifyLineUptoRow : OpenClaim := { program := "ytpbmngbigdaklaadoor", sum := "6353acbdc38e90ef54e3bede5a9c0fcc601510969134e9ea0a46a3bb12a573ba", func := "loop.example/g03005/laws.FnExactSimplifyLine", spec := "fnExactSimplifyLine", unfollowed := true, recurses := true, named := ["loop.example/g03005/impl.errNotSimpler"], ifaces := true, apart := false, laid := [("loop.example/g03005/impl.errNotSimpler", laid_loop_example_g03005_impl_errNotSimpler)], narrowed := true }
def FnExactSimplifyLineUptoSaid : Prop := fnExactSimplifyLineUptoRow.holds Tryd.pinned (OpenSpec.upto fnExactSimplifyLineSpec)

/-- 'laws.FnExactCountLeftOut', WHERE WHAT IT READS IS OF BULK AT MOST 1048576: true; the input reads as it did. -/
def fnExactCountLeftOutUptoRow : OpenClaim := { program := "ytpbmngbigdaklaadoor", sum := "6353acbdc38e90ef54e3bede5a9c0fcc601510969134e9ea0a46a3bb12a573ba", func := "loop.example/g03005/laws.FnExactCountLeftOut", spec := "fnExactCountLeftOut", unfollowed := true, recurses := true, named := ["loop.example/g03005/impl.errNotSimpler"], ifaces := true, apart := false, laid := [("loop.example/g03005/impl.errNotSimpler", laid_loop_example_g03005_impl_errNotSimpler)], narrowed := true }
def FnExactCountLeftOutUptoSaid : Prop := fnExactCountLeftOutUptoRow.holds Tryd.pinned (OpenSpec.upto fnExactCountLeftOutSpec)

end Rows
end Go.Proofs.YtpbmngbigdaklaaDoor
