/- A segment as an argument of a law: opened to its four integers. -/
import Derived.Test.YtbnjaaegbmhopaaSeg
import Derived.Lib.SmallJoins
import Derived.OpenShut
namespace Go.Proofs.Ytbnjaaegbmhopaa
open Go.ChangeShapes Go.WideShapes Go.ChangeAt Go.RowKit Go.Joins
set_option linter.unusedVariables false
set_option maxRecDepth 100000

theorem szOfSegment : Try.prog.cellsOf 75 = 4 := by kernel_rfl
theorem szOfSegmentPt : Try.prog.cellsOf 71 = 2 := by kernel_rfl
theorem open_seg {H : Type} {enc : TypeId × Value → H} {W : World} {base b0 : Nat} {spare : Nat → Bool} {held : Bool} {r : Reach} {v : Value} {d : DataW H} {p : List MemPlace}
    (hv : Value.okWide Try.prog W r b0 75 v) (h : DataW.Trod enc Try.prog W base spare held 75 v d p) :
    ∃ a b c e : Int, v = SegV a b c e ∧ (Lit.int .i64 a).wf = true ∧ (Lit.int .i64 b).wf = true ∧ (Lit.int .i64 c).wf = true ∧ (Lit.int .i64 e).wf = true := by
  obtain ⟨cs, rfl, hsz⟩ := okWide_struct Try.underlying75 hv
  obtain ⟨c0, c1, c2, c3, rfl⟩ := array4 (hsz.trans szOfSegment)
  obtain ⟨fuel, hf⟩ := h
  obtain ⟨y0, y1, n, _, _, h0, h1⟩ := trod_struct2 Try.underlying75 hf
  simp only [szOfSegmentPt, Value.cells, List.drop_zero, List.take_succ_cons, List.take_zero, List.drop_succ_cons] at h0 h1
  obtain ⟨u0, u1, m, _, _, g0, g1⟩ := trod_struct2 Try.underlying71 h0
  obtain ⟨u2, u3, m', _, _, g2, g3⟩ := trod_struct2 Try.underlying71 h1
  obtain ⟨a, e0, _, wa⟩ := DataW.trod_int Try.underlying3 g0
  obtain ⟨b, e1, _, wb⟩ := DataW.trod_int Try.underlying3 g1
  obtain ⟨c, e2, _, wc⟩ := DataW.trod_int Try.underlying3 g2
  obtain ⟨e, e3, _, we⟩ := DataW.trod_int Try.underlying3 g3
  have hci : Try.prog.cellsOf 3 = 1 := by kernel_rfl
  simp [hci] at e0 e1 e2 e3
  subst e0 e1 e2 e3
  exact ⟨a, b, c, e, rfl, wa, wb, wc, we⟩
end Go.Proofs.Ytbnjaaegbmhopaa
