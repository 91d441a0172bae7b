/- Segments: IsSegment and IsOn of the model. -/
import Derived.Test.YtpbmngbigdaklaaDoorSegI
namespace Go.Proofs.YtpbmngbigdaklaaDoor
open Go.ChangeShapes Go.WideShapes Go.ChangeAt Go.RowKit
set_option linter.unusedVariables false

theorem isS_no1 {a b c d : Int} (h : isP a b = false) : isS a b c d = false := by simp [isS, isP2, h]
theorem isS_no2 {a b c d : Int} (h : isP c d = false) : isS a b c d = false := by simp [isS, isP2, h]
theorem isS_yes {a b c d : Int} (h : isP a b = true) (h' : isP c d = true) : isS a b c d = !decide (a = c ∧ b = d) := by simp [isS, isP2, h, h']
theorem onV_p {a b c d x y : Int} (h : isP x y = false) : onV a b c d x y = false := by
  unfold onV
  cases hs : isS a b c d
  · rfl
  · rw [Bool.true_and]
    refine decide_eq_false fun ho => ?_
    obtain ⟨h0, h1, h2, h3⟩ := on_bd hs ho
    rw [isP_of h0 h1 h2 h3] at h; cases h
theorem on_z {a b c d x y z : Int} (hz : (c - a) * (y - b) - (d - b) * (x - a) = z) (h : z ≠ 0) : onV a b c d x y = false := by
  unfold onV
  rw [decide_eq_false (fun ho : On a b c d x y => h (by rw [← hz]; exact ho.2.2.2.2)), Bool.and_false]
theorem on_xn {a b c d x y : Int} (h : inB x (extV false a c) (extV true a c) = false) : onV a b c d x y = false := by
  unfold onV
  rw [decide_eq_false (fun ho : On a b c d x y => by rw [ext_min, ext_max, inB_yes ho.1 ho.2.1] at h; cases h), Bool.and_false]
theorem on_yn {a b c d x y : Int} (h : inB y (extV false b d) (extV true b d) = false) : onV a b c d x y = false := by
  unfold onV
  rw [decide_eq_false (fun ho : On a b c d x y => by rw [ext_min, ext_max, inB_yes ho.2.2.1 ho.2.2.2.1] at h; cases h), Bool.and_false]
theorem on_all {a b c d x y : Int} (hs : isS a b c d = true) (hz : (c - a) * (y - b) - (d - b) * (x - a) = 0) (h : inB x (extV false a c) (extV true a c) = true) (h' : inB y (extV false b d) (extV true b d) = true) : onV a b c d x y = true := by
  rw [ext_min, ext_max] at h h'
  obtain ⟨x0, x1⟩ := inB_bd h
  obtain ⟨y0, y1⟩ := inB_bd h'
  exact onV_iff.2 ⟨hs, x0, x1, y0, y1, hz⟩
end Go.Proofs.YtpbmngbigdaklaaDoor
