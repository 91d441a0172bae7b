/- What the statements list of errNoRing, as the walks read it. -/
import Derived.Test.YtbnjaaegbmhopaaDoorRows
import Derived.Test.YtbnjaaegbmhopaaDoorJoin
import Derived.Stop.LaidErr
import Derived.LaidMore
namespace Go.Proofs.YtbnjaaegbmhopaaDoor
open Go.ChangeShapes Go.WideShapes Go.ChangeAt Go.RowKit Go.Stop
set_option linter.unusedVariables false
set_option maxRecDepth 100000

theorem errName : Tryd.prog.globalNamed "loop.example/g03005/impl.errNoRing" = some 0 := by kernel_rfl
theorem errType : (Tryd.prog.globals[0]?).map (·.type) = some 56 := by kernel_rfl
theorem errStar : "*" ++ "errors.errorString" = "*errors.errorString" := by decide
theorem errRow (u : TypeId) (h : Tryd.prog.typeName? 3 u = some "*errors.errorString") : u = 162 :=
  typeName_ptr_named (nm := "errors.errorString") (by rw [errStar]; kernel_rfl) (by kernel_rfl) (by decide) u (by rw [errStar]; exact h)
theorem errCells : Tryd.prog.cellsOf 187 = 1 := by kernel_rfl
theorem strCells : Tryd.prog.cellsOf 9 = 1 := by kernel_rfl
theorem errAt_of {w : World} (hL : laidMet Tryd.prog [("loop.example/g03005/impl.errNoRing", Rows.laid_loop_example_g03005_impl_errNoRing)] w) : ∃ a0, ErrAt a0 w := by
  obtain ⟨a, s, hv, -, -, -⟩ := laid_sentinel (tp := 162) (te := 187) (ts := 9) hL errName errType Tryd.underlying56 errRow Tryd.underlying162 Tryd.underlying187 rfl rfl Tryd.underlying9 errCells strCells
  exact ⟨a, by have := World.var?_cell errName hv 0; simpa [ErrAt] using this⟩
theorem errVar_of {w : World} (hL : laidMet Tryd.prog [("loop.example/g03005/impl.errNoRing", Rows.laid_loop_example_g03005_impl_errNoRing)] w) : ∃ a0, w.var? Tryd.prog "loop.example/g03005/impl.errNoRing" = some #[.iface 162 (.pointer (some a0))] := by
  obtain ⟨a, s, hv, -, -, -⟩ := laid_sentinel (tp := 162) (te := 187) (ts := 9) hL errName errType Tryd.underlying56 errRow Tryd.underlying162 Tryd.underlying187 rfl rfl Tryd.underlying9 errCells strCells
  exact ⟨a, hv⟩
theorem errVars {H : Type} (enc : TypeId × Value → H) {W : World} {a0 : Addr} (h : W.var? Tryd.prog "loop.example/g03005/impl.errNoRing" = some #[.iface 162 (.pointer (some a0))]) (sp : Nat → Bool) :
    DataW.TrodVars enc Tryd.prog W sp ["loop.example/g03005/impl.errNoRing"] [tok enc (.iface 162 (.pointer (some a0)))] [.cell 0 0] :=
  vars_read1 enc errName errType Tryd.underlying56 h trivial sp
theorem errVar_below {W W' : World} {a0 : Addr} (h : W.var? Tryd.prog "loop.example/g03005/impl.errNoRing" = some #[.iface 162 (.pointer (some a0))]) (hb : Below W.heap.size W W') : W'.var? Tryd.prog "loop.example/g03005/impl.errNoRing" = some #[.iface 162 (.pointer (some a0))] :=
  var?_below hb errName (World.block_lt_of_cell? _ _ (World.var?_cell errName h 0)) h
end Go.Proofs.YtbnjaaegbmhopaaDoor
