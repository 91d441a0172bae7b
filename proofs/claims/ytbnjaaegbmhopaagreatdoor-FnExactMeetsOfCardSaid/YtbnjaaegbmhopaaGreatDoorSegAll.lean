/- Segments: the contracts of HowMeet by values. -/
import Derived.Test.YtbnjaaegbmhopaaGreatDoorSegI5
import Derived.Test.YtbnjaaegbmhopaaGreatDoorSegS4
import Derived.Test.YtbnjaaegbmhopaaGreatDoorSegOn
namespace Go.Proofs.YtbnjaaegbmhopaaGreatDoor
open Go.ChangeShapes Go.WideShapes Go.ChangeAt Go.RowKit
set_option linter.unusedVariables false

theorem howMeet_is (a b c d p q r s : Int) (k : Int) (w : World) (h : howV a b c d p q r s = k) :
    Calls Tryz.prog 95 #[SegV a b c d, SegV p q r s] w fun e w' => e = .returned (.int .i64 k) ∧ Below w.heap.size w w' := by
  subst h; exact howMeet_any a b c d p q r s w
theorem sHowMeet_is (a b c d p q r s : Int) (k : Int) (w : World) (h : howV a b c d p q r s = k) :
    Calls Tryz.prog 113 #[SegV a b c d, SegV p q r s] w fun e w' => e = .returned (.int .i64 k) ∧ Below w.heap.size w w' := by
  subst h; exact sHowMeet_any a b c d p q r s w
end Go.Proofs.YtbnjaaegbmhopaaGreatDoor
