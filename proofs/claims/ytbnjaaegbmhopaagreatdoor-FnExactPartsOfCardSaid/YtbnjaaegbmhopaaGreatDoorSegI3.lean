/- Segments: IsSegment, IsOn, IsBetween, TurnSegment and the marks, in package impl. -/
import Derived.Test.YtbnjaaegbmhopaaGreatDoorSegI2
namespace Go.Proofs.YtbnjaaegbmhopaaGreatDoor
open Go.ChangeShapes Go.WideShapes Go.ChangeAt Go.RowKit
set_option linter.unusedVariables false

theorem isSegment_any (a b c d : Int) (w : World) :
    Calls Tryz.prog 156 #[SegV a b c d] w fun e w' => e = .returned (.bool (isS a b c d)) ∧ Below w.heap.size w w' := by
  cases hs : isS a b c d
  · go_enter Tryz.func156, Tryz.ntmps156
    go_wp2_with fail
    refine (boxS_no a b c d _ hs).mono ?_
    rintro e w1 ⟨rfl, hb1⟩
    have HB := Lib.hid (((Vars.of1 w (SegC a b c d) 78).next hb1).al (.cells NoC 125))
    clear hb1
    go_wp2
    go_ret
    exact ⟨rfl, HB.out.1⟩
  · go_enter Tryz.func156, Tryz.ntmps156
    go_wp2_with fail
    refine (boxS_yes a b c d _ hs).mono ?_
    rintro e w1 ⟨rfl, hb1⟩
    have HB := Lib.hid (((Vars.of1 w (SegC a b c d) 78).next hb1).al (.cells (BoxedC a b c d) 125))
    clear hb1
    go_wp2
    go_ret
    exact ⟨rfl, HB.out.1⟩
theorem markSide_is (a b c d x y k : Int) (w : World) (h : runeV (sideV a b c d x y) = k) :
    Calls Tryz.prog 91 #[SegV a b c d, PtV x y] w fun e w' => e = .returned (.int .i32 k) ∧ Below w.heap.size w w' := by
  subst h; exact markSide_any a b c d x y w
/-- Is the point on the segment, as package impl asks. -/
theorem on_eq {a b c d x y : Int} (hs : isS a b c d = true) : onV a b c d x y = (inB x (min a c) (max a c) && (inB y (min b d) (max b d) && decide (sideV a b c d x y = 0))) := by
  obtain ⟨hA, hC, hne⟩ := isS_at hs
  unfold onV
  rw [hs, Bool.true_and]
  cases h1 : inB x (min a c) (max a c)
  · rw [Bool.false_and]
    refine decide_eq_false fun h => ?_
    obtain ⟨x0, x1, _⟩ := h
    rw [inB_yes x0 x1] at h1; cases h1
  · cases h2 : inB y (min b d) (max b d)
    · rw [Bool.false_and, Bool.and_false]
      refine decide_eq_false fun h => ?_
      obtain ⟨_, _, y0, y1, _⟩ := h
      rw [inB_yes y0 y1] at h2; cases h2
    · obtain ⟨x0, x1⟩ := inB_bd h1
      obtain ⟨y0, y1⟩ := inB_bd h2
      rw [Bool.true_and, Bool.true_and]
      refine decide_eq_decide.2 ?_
      rw [side_sg (isP3_of hA hC (by omega)), sg_zero]
      exact ⟨fun h => h.2.2.2.2, fun h => ⟨x0, x1, y0, y1, h⟩⟩
theorem on_no1 {a b c d x y : Int} (hs : isS a b c d = true) (h : inB x (min a c) (max a c) = false) : onV a b c d x y = false := by rw [on_eq hs, h]; rfl
theorem on_no2 {a b c d x y : Int} (hs : isS a b c d = true) (h : inB y (min b d) (max b d) = false) : onV a b c d x y = false := by rw [on_eq hs, h]; simp
theorem on_by {a b c d x y z : Int} (hs : isS a b c d = true) (h : inB x (min a c) (max a c) = true) (h' : inB y (min b d) (max b d) = true) (hz : sideV a b c d x y = z) : onV a b c d x y = decide (z = 0) := by rw [on_eq hs, h, h', hz]; simp
/-- Is the point on the segment: in its box, and on its line. -/
theorem isBx_of {a b c d : Int} (hs : isS a b c d = true) : isBx (min a c) (min b d) (max a c) (max b d) = true := by
  obtain ⟨hA, hC, hne⟩ := isS_at hs
  exact isBx_yes (isP_of (by omega) (by omega) (by omega) (by omega)) (isP_of (by omega) (by omega) (by omega) (by omega)) (by omega) (by omega)
theorem on_box {a b c d x y : Int} (hs : isS a b c d = true) : onV a b c d x y = (inBx (min a c) (min b d) (max a c) (max b d) x y && decide (sideV a b c d x y = 0)) := by
  rw [on_eq hs, inBx, isBx_of hs, Bool.true_and, Bool.and_assoc]
theorem isOn_any (a b c d x y : Int) (w : World) :
    Calls Tryz.prog 52 #[SegV a b c d, PtV x y] w fun e w' => e = .returned (.bool (onV a b c d x y)) ∧ Below w.heap.size w w' := by
  cases hs : isS a b c d
  · have HO := Lib.hid (onV_no (x := x) (y := y) hs)
    go_enter Tryz.func52, Tryz.ntmps52
    go_wp2_with fail
    refine (boxS_no a b c d _ hs).mono ?_
    rintro e w1 ⟨rfl, hb1⟩
    have HB := Lib.hid (((Vars.of2 w (SegC a b c d) (PtC x y) 78 33).next hb1).al (.cells NoC 125))
    clear hb1
    go_wp2
    go_ret
    exact ⟨ret_eq HO.out.symm, HB.out.1⟩
  · have HO := Lib.hid (on_box (x := x) (y := y) hs)
    go_enter Tryz.func52, Tryz.ntmps52
    go_wp2_with fail
    refine (boxS_yes a b c d _ hs).mono ?_
    rintro e w1 ⟨rfl, hb1⟩
    have HB := Lib.hid (((Vars.of2 w (SegC a b c d) (PtC x y) 78 33).next hb1).al (.cells (BoxedC a b c d) 125))
    clear hb1 hs
    obtain ⟨k0, k1, k2, k3, k4, k5⟩ := HB.out.c42p
    go_wp2_with fail
    cases hu : inBx (min a c) (min b d) (max a c) (max b d) x y
    · refine (inBox_is _ _ _ _ _ _ false _ hu).mono ?_
      rintro e w2 ⟨rfl, hb2⟩
      have HB2 := Lib.hid (HB.out.next hb2)
      clear hb2
      go_wp2
      go_ret
      exact ⟨ret_eq (by rw [HO.out, hu]; rfl), HB2.out.1⟩
    · refine (inBox_is _ _ _ _ _ _ true _ hu).mono ?_
      rintro e w2 ⟨rfl, hb2⟩
      have HB2 := Lib.hid (HB.out.next hb2)
      clear hb2 k0 k1 k2 k3 k4 k5
      obtain ⟨k0, k1, k2, k3, k4, k5⟩ := HB2.out.c42p
      obtain ⟨z, hz⟩ : ∃ z, sideV a b c d x y = z := ⟨_, rfl⟩
      have HO2 : Hid (onV a b c d x y = decide (z = 0)) := Lib.hid (by rw [HO.out, hu, hz]; rfl)
      have hzc := sides3 a b c d x y
      rw [hz] at hzc
      clear hu
      rcases hzc with rfl | rfl | rfl
      all_goals
        have HZ := Lib.hid hz
        clear hz
        go_wp2_with fail
        refine (markSide_is a b c d x y _ _ (by rw [HZ.out])).mono ?_
        rintro e w3 ⟨rfl, hb3⟩
        have HB3 := Lib.hid (HB2.out.next hb3)
        clear hb3
        go_wp2
        go_ret
        exact ⟨ret_eq (by rw [HO2.out] <;> rfl), HB3.out.1⟩
theorem turn_any (a b c d : Int) (w : World) :
    Calls Tryz.prog 118 #[SegV a b c d] w fun e w' => e = .returned (SegV c d a b) ∧ Below w.heap.size w w' := by
  go_enter Tryz.func118, Tryz.ntmps118
  go_wp2
  refine bodyPost_ret (v := SegV c d a b) (by simp [results, Tryz.results118, go_sem]) rfl ⟨rfl, ?_⟩
  exact (Vars.of2 w (SegC a b c d) (SegC c d a b) 78 78).1
end Go.Proofs.YtbnjaaegbmhopaaGreatDoor
