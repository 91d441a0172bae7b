/- Segments: the contracts of HowMeet by values. -/
import Derived.Test.YtbnjaaegbmhopabSegI5
import Derived.Test.YtbnjaaegbmhopabSegS4
import Derived.Test.YtbnjaaegbmhopabSegOn
namespace Go.Proofs.Ytbnjaaegbmhopab
open Go.ChangeShapes Go.WideShapes Go.ChangeAt Go.RowKit
set_option linter.unusedVariables false

theorem howMeet_is (a b c d p q r s : Int) (k : Int) (w : World) (h : howV a b c d p q r s = k) :
    Calls Try.prog 56 #[SegV a b c d, SegV p q r s] w fun e w' => e = .returned (.int .i64 k) ∧ Below w.heap.size w w' := by
  subst h; exact howMeet_any a b c d p q r s w
theorem sHowMeet_is (a b c d p q r s : Int) (k : Int) (w : World) (h : howV a b c d p q r s = k) :
    Calls Try.prog 53 #[SegV a b c d, SegV p q r s] w fun e w' => e = .returned (.int .i64 k) ∧ Below w.heap.size w w' := by
  subst h; exact sHowMeet_any a b c d p q r s w
end Go.Proofs.Ytbnjaaegbmhopab
