/- The laws' own helpers of segments: a copy, a comparison. -/
import Derived.Test.YtbnjaaegbmhopaaGreatDoorSeg
import Derived.Test.YtbnjaaegbmhopaaGreatDoorVars2
namespace Go.Proofs.YtbnjaaegbmhopaaGreatDoor
open Go.ChangeShapes Go.WideShapes Go.ChangeAt Go.RowKit
set_option linter.unusedVariables false

theorem eqSegment_yes (a b c d : Int) (w : World) :
    Calls Tryz.prog 67 #[SegV a b c d, SegV a b c d] w fun e w' => e = .returned (.bool true) ∧ Below w.heap.size w w' := by
  have HB := Lib.hid (Vars.of2 w (SegC a b c d) (SegC a b c d) 78 78)
  go_enter Tryz.func67, Tryz.ntmps67
  obtain ⟨k0, k1, k2, k3, k4, k5, k6, k7⟩ := HB.out.c44
  go_wp2_with fail
  refine (eqPoint_any _ _ _ _ _).mono ?_
  rintro e w1 ⟨rfl, hb1⟩
  have HB1 := Lib.hid (HB.out.next hb1)
  clear hb1 HB k0 k1 k2 k3 k4 k5 k6 k7
  obtain ⟨k0, k1, k2, k3, k4, k5, k6, k7⟩ := HB1.out.c44
  have t1 : decide (a = a ∧ b = b) = true := by simp
  have t2 : decide (c = c ∧ d = d) = true := by simp
  go_wp2_with fail
  refine (eqPoint_any _ _ _ _ _).mono ?_
  rintro e w2 ⟨rfl, hb2⟩
  have HB2 := Lib.hid (HB1.out.next hb2)
  clear hb2 HB1
  go_wp2
  go_ret
  exact ⟨rfl, HB2.out.1⟩
end Go.Proofs.YtbnjaaegbmhopaaGreatDoor
