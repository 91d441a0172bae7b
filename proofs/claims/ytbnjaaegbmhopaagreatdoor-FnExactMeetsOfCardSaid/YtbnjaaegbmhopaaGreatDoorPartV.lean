/- The parts of a feature, and how two features meet: values. -/
import Derived.Test.YtbnjaaegbmhopaaGreatDoorFeat
import Derived.Test.YtbnjaaegbmhopaaGreatDoorRingI
import Derived.Test.YtbnjaaegbmhopaaGreatDoorSegCall
namespace Go.Proofs.YtbnjaaegbmhopaaGreatDoor
open Go.ChangeShapes Go.WideShapes Go.ChangeAt Go.RowKit
set_option linter.unusedVariables false

abbrev Sg := Int × Int × Int × Int
/-- The segments of a feature. -/
def partsV (f : Feat) : List Sg := if featV f = true then (if f.2.1 = 2 then sgV f.2.2.2.2 else if f.2.1 = 3 then rsV f.2.2.2.2 else []) else []
theorem parts_no {f : Feat} (h : featV f = false) : partsV f = [] := by unfold partsV; rw [h]; rfl
theorem parts_2 {a r : Int} {s : ByteArray} {ps : List (Int × Int)} (h : featV (a, 2, r, s, ps) = true) : partsV (a, 2, r, s, ps) = sgV ps := by unfold partsV; rw [if_pos h]; rfl
theorem parts_3 {a r : Int} {s : ByteArray} {ps : List (Int × Int)} (h : featV (a, 3, r, s, ps) = true) : partsV (a, 3, r, s, ps) = rsV ps := by unfold partsV; rw [if_pos h]; rfl
theorem parts_0 {a k r : Int} {s : ByteArray} {ps : List (Int × Int)} (h2 : ¬ k = 2) (h3 : ¬ k = 3) : partsV (a, k, r, s, ps) = [] := by
  unfold partsV; simp [h2, h3]
theorem parts_len (f : Feat) : (partsV f).length ≤ 10 := by
  unfold partsV
  split
  · split
    · have := sgV_len f.2.2.2.2; omega
    · split
      · unfold rsV
        split
        · next h => rw [rgS_len]; exact ((isRg_iff _).1 h).1.2
        · simp
      · simp
  · simp
/-- How two features meet. -/
def meetF (f g : Feat) : Int := mtV (partsV f) (partsV g)
theorem meetF_comm (f g : Feat) : meetF g f = meetF f g := mtV_comm _ _
theorem meetF_bd (f g : Feat) : meetF f g ≤ 3 := mtV_bd _ _
end Go.Proofs.YtbnjaaegbmhopaaGreatDoor
