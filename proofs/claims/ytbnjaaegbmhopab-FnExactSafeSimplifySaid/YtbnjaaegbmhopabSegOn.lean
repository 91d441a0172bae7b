/- Segments: the contracts of chapter 5 by values, but for HowMeet. -/
import Derived.Test.YtbnjaaegbmhopabSegI3
import Derived.Test.YtbnjaaegbmhopabSegS2
namespace Go.Proofs.Ytbnjaaegbmhopab
open Go.ChangeShapes Go.WideShapes Go.ChangeAt Go.RowKit
set_option linter.unusedVariables false

theorem isSegment_is (a b c d : Int) (k : Bool) (w : World) (h : isS a b c d = k) :
    Calls Try.prog 64 #[SegV a b c d] w fun e w' => e = .returned (.bool k) ∧ Below w.heap.size w w' := by
  subst h; exact isSegment_any a b c d w
end Go.Proofs.Ytbnjaaegbmhopab
