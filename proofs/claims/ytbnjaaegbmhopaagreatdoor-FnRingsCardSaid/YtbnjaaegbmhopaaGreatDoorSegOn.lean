/- Segments: the contracts of chapter 5 by values, but for HowMeet. -/
import Derived.Test.YtbnjaaegbmhopaaGreatDoorSegI3
import Derived.Test.YtbnjaaegbmhopaaGreatDoorSegS2
namespace Go.Proofs.YtbnjaaegbmhopaaGreatDoor
open Go.ChangeShapes Go.WideShapes Go.ChangeAt Go.RowKit
set_option linter.unusedVariables false

theorem isOn_is (a b c d x y : Int) (k : Bool) (w : World) (h : onV a b c d x y = k) :
    Calls Tryz.prog 52 #[SegV a b c d, PtV x y] w fun e w' => e = .returned (.bool k) ∧ Below w.heap.size w w' := by
  subst h; exact isOn_any a b c d x y w
theorem isSegment_is (a b c d : Int) (k : Bool) (w : World) (h : isS a b c d = k) :
    Calls Tryz.prog 156 #[SegV a b c d] w fun e w' => e = .returned (.bool k) ∧ Below w.heap.size w w' := by
  subst h; exact isSegment_any a b c d w
end Go.Proofs.YtbnjaaegbmhopaaGreatDoor
