/- Segments: the contracts of chapter 5 by values, but for HowMeet. -/
import Derived.Test.YtjnbdbgkecfkcaaDoorSegI3
import Derived.Test.YtjnbdbgkecfkcaaDoorSegS2
namespace Go.Proofs.YtjnbdbgkecfkcaaDoor
open Go.ChangeShapes Go.WideShapes Go.ChangeAt Go.RowKit
set_option linter.unusedVariables false

theorem isOn_is (a b c d x y : Int) (k : Bool) (w : World) (h : onV a b c d x y = k) :
    Calls Tryd.prog 41 #[SegV a b c d, PtV x y] w fun e w' => e = .returned (.bool k) ∧ Below w.heap.size w w' := by
  subst h; exact isOn_any a b c d x y w
end Go.Proofs.YtjnbdbgkecfkcaaDoor
