/- Segments: the contracts of HowMeet by values. -/
import Derived.Test.YtbnjaaegbmhopaaDoorSegI5
import Derived.Test.YtbnjaaegbmhopaaDoorSegS4
import Derived.Test.YtbnjaaegbmhopaaDoorSegOn
namespace Go.Proofs.YtbnjaaegbmhopaaDoor
open Go.ChangeShapes Go.WideShapes Go.ChangeAt Go.RowKit
set_option linter.unusedVariables false

theorem howMeet_is (a b c d p q r s : Int) (k : Int) (w : World) (h : howV a b c d p q r s = k) :
    Calls Tryd.prog 68 #[SegV a b c d, SegV p q r s] w fun e w' => e = .returned (.int .i64 k) ∧ Below w.heap.size w w' := by
  subst h; exact howMeet_any a b c d p q r s w
theorem sHowMeet_is (a b c d p q r s : Int) (k : Int) (w : World) (h : howV a b c d p q r s = k) :
    Calls Tryd.prog 32 #[SegV a b c d, SegV p q r s] w fun e w' => e = .returned (.int .i64 k) ∧ Below w.heap.size w w' := by
  subst h; exact sHowMeet_any a b c d p q r s w
end Go.Proofs.YtbnjaaegbmhopaaDoor
