/- The law FnExactFormatInt: its walk, for every int. -/
import Derived.Test.YtdhfkkhanjgomaaDoorFmt
import Derived.Test.YtdhfkkhanjgomaaDoorTab
namespace Go.Proofs.YtdhfkkhanjgomaaDoor
open Go.ChangeShapes Go.WideShapes Go.ChangeAt Go.RowKit
set_option linter.unusedVariables false

theorem law_format (n : Int) (h0 : -9223372036854775808 ≤ n) (h1 : n ≤ 9223372036854775807) (w : World) (ht : PowTab w) :
    Calls Tryd.prog 4 #[.int .i64 n] w fun e w' => e = .returned (.bool true) ∧ Below w.heap.size w w' := by
  go_enter Tryd.func4, Tryd.ntmps4
  go_wp2_with (go_at_call 14; refine (sfmt_any n h0 h1 _).mono ?_; rintro e w1 ⟨rfl, hb1⟩; refine Hid.out ?_)
  refine Lib.hid ?_
  have ht1 := powTab_below ht hb1
  go_wp2_with (go_at_call 10; refine (fmt_any n h0 h1 _ ht1).mono ?_; rintro e w2 ⟨rfl, hb2⟩)
  go_ret
  exact ⟨rfl, hb1.trans (hb2.mono hb1.size)⟩
theorem wf_bd {n : Int} (h : (Lit.int .i64 n).wf = true) : -9223372036854775808 ≤ n ∧ n ≤ 9223372036854775807 := by
  have e1 : IntKind.i64.min = -9223372036854775808 := rfl
  have e2 : IntKind.i64.max = 9223372036854775807 := rfl
  simp [Lit.wf, e1, e2] at h
  omega
theorem law_format_laid (W : World) (n : Int) (wf : (Lit.int .i64 n).wf = true) (hL : laidMet Tryd.prog Rows.fnExactFormatIntRow.laid W) :
    Calls Tryd.prog 4 #[.int .i64 n] W fun e w' => e = .returned (.bool true) ∧ Below W.heap.size W w' :=
  law_format n (wf_bd wf).1 (wf_bd wf).2 W (powTab_of hL.tail.tail)
end Go.Proofs.YtdhfkkhanjgomaaDoor
