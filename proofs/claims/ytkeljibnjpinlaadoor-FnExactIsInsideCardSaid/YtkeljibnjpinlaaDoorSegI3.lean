/- Segments: IsSegment, IsOn, IsBetween, TurnSegment and the marks, in package impl. -/
import Derived.Test.YtkeljibnjpinlaaDoorSegI2
namespace Go.Proofs.YtkeljibnjpinlaaDoor
open Go.ChangeShapes Go.WideShapes Go.ChangeAt Go.RowKit
set_option linter.unusedVariables false

theorem markSide_is (a b c d x y k : Int) (w : World) (h : runeV (sideV a b c d x y) = k) :
    Calls Tryd.prog 69 #[SegV a b c d, PtV x y] w fun e w' => e = .returned (.int .i32 k) ∧ Below w.heap.size w w' := by
  subst h; exact markSide_any a b c d x y w
/-- Is the point on the segment, as package impl asks. -/
theorem on_eq {a b c d x y : Int} (hs : isS a b c d = true) : onV a b c d x y = (inB x (min a c) (max a c) && (inB y (min b d) (max b d) && decide (sideV a b c d x y = 0))) := by
  obtain ⟨hA, hC, hne⟩ := isS_at hs
  unfold onV
  rw [hs, Bool.true_and]
  cases h1 : inB x (min a c) (max a c)
  · rw [Bool.false_and]
    refine decide_eq_false fun h => ?_
    obtain ⟨x0, x1, _⟩ := h
    rw [inB_yes x0 x1] at h1; cases h1
  · cases h2 : inB y (min b d) (max b d)
    · rw [Bool.false_and, Bool.and_false]
      refine decide_eq_false fun h => ?_
      obtain ⟨_, _, y0, y1, _⟩ := h
      rw [inB_yes y0 y1] at h2; cases h2
    · obtain ⟨x0, x1⟩ := inB_bd h1
      obtain ⟨y0, y1⟩ := inB_bd h2
      rw [Bool.true_and, Bool.true_and]
      refine decide_eq_decide.2 ?_
      rw [side_sg (isP3_of hA hC (by omega)), sg_zero]
      exact ⟨fun h => h.2.2.2.2, fun h => ⟨x0, x1, y0, y1, h⟩⟩
theorem on_no1 {a b c d x y : Int} (hs : isS a b c d = true) (h : inB x (min a c) (max a c) = false) : onV a b c d x y = false := by rw [on_eq hs, h]; rfl
theorem on_no2 {a b c d x y : Int} (hs : isS a b c d = true) (h : inB y (min b d) (max b d) = false) : onV a b c d x y = false := by rw [on_eq hs, h]; simp
theorem on_by {a b c d x y z : Int} (hs : isS a b c d = true) (h : inB x (min a c) (max a c) = true) (h' : inB y (min b d) (max b d) = true) (hz : sideV a b c d x y = z) : onV a b c d x y = decide (z = 0) := by rw [on_eq hs, h, h', hz]; simp
theorem isOn_any (a b c d x y : Int) (w : World) :
    Calls Tryd.prog 41 #[SegV a b c d, PtV x y] w fun e w' => e = .returned (.bool (onV a b c d x y)) ∧ Below w.heap.size w w' := by
  cases hs : isS a b c d
  · have HO := Lib.hid (onV_no (x := x) (y := y) hs)
    go_enter Tryd.func41, Tryd.ntmps41
    go_wp2_with fail
    refine (boxS_no a b c d _ hs).mono ?_
    rintro e w1 ⟨rfl, hb1⟩
    have HB := Lib.hid (((Vars.of2 w (SegC a b c d) (PtC x y) 60 33).next hb1).al (.cells NoC 94))
    clear hb1
    go_wp2
    go_ret
    exact ⟨ret_eq HO.out.symm, HB.out.1⟩
  · go_enter Tryd.func41, Tryd.ntmps41
    go_upto_region 4 with fail
    refine (boxS_yes a b c d _ hs).mono ?_
    rintro e w1 ⟨rfl, hb1⟩
    have HB := Lib.hid (((Vars.of2 w (SegC a b c d) (PtC x y) 60 33).next hb1).al (.cells (BoxedC a b c d) 94))
    clear hb1
    go_upto_region 4 with fail
    go_cut [7, 8] (fun s7 s8 wx => ∃ b7 b8 : Nat, s7 = .pointer (some ⟨b7, 0, none⟩) ∧ s8 = .pointer (some ⟨b8, 0, none⟩) ∧ Hid (Vars w wx [SegC a b c d, PtC x y]) ∧
      wx.cell? ⟨b7, 0, none⟩ = some (.int .i64 (min a c)) ∧ wx.cell? ⟨b7, 1, none⟩ = some (.int .i64 (min b d)) ∧ wx.cell? ⟨b8, 0, none⟩ = some (.int .i64 (max a c)) ∧ wx.cell? ⟨b8, 1, none⟩ = some (.int .i64 (max b d)))
    case first =>
      go_region
      all_goals
        go_wp2_with fail
        go_meet
        refine ⟨_, _, rfl, rfl, Lib.hid (((HB.out.al _).al _).drew), ?_, ?_, ?_, ?_⟩ <;> simp [go_sem]
    case rest =>
    obtain ⟨b7, b8, rfl, rfl, HB1, q0, q1, q2, q3⟩ := hcut
    clear HB
    obtain ⟨k0, k1, k2, k3, k4, k5⟩ := HB1.out.c42p
    go_wp2_with fail
    cases h1 : inB x (min a c) (max a c)
    · have HO := Lib.hid (on_no1 (y := y) hs h1)
      refine (in_is _ _ _ _ _ h1).mono ?_
      rintro e w' ⟨rfl, rfl⟩
      go_wp2
      go_ret
      exact ⟨ret_eq HO.out.symm, HB1.out.1⟩
    · refine (in_is _ _ _ _ _ h1).mono ?_
      rintro e w' ⟨rfl, rfl⟩
      go_wp2_with fail
      cases h2 : inB y (min b d) (max b d)
      · have HO := Lib.hid (on_no2 (x := x) hs h2)
        refine (in_is _ _ _ _ _ h2).mono ?_
        rintro e w' ⟨rfl, rfl⟩
        go_wp2
        go_ret
        exact ⟨ret_eq HO.out.symm, HB1.out.1⟩
      · refine (in_is _ _ _ _ _ h2).mono ?_
        rintro e w' ⟨rfl, rfl⟩
        obtain ⟨z, hz⟩ : ∃ z, sideV a b c d x y = z := ⟨_, rfl⟩
        have HO := Lib.hid (on_by hs h1 h2 hz)
        have hzc := sides3 a b c d x y
        rw [hz] at hzc
        rcases hzc with rfl | rfl | rfl
        all_goals
          have HZ := Lib.hid hz
          clear hz h1 h2 hs
          go_wp2_with fail
          refine (markSide_is a b c d x y _ _ (by rw [HZ.out])).mono ?_
          rintro e w2 ⟨rfl, hb2⟩
          have HB2 := Lib.hid (HB1.out.next hb2)
          clear hb2
          go_wp2
          go_ret
          exact ⟨ret_eq (by rw [HO.out] <;> rfl), HB2.out.1⟩
theorem turn_any (a b c d : Int) (w : World) :
    Calls Tryd.prog 81 #[SegV a b c d] w fun e w' => e = .returned (SegV c d a b) ∧ Below w.heap.size w w' := by
  go_enter Tryd.func81, Tryd.ntmps81
  go_wp2
  refine bodyPost_ret (v := SegV c d a b) (by simp [results, Tryd.results81, go_sem]) rfl ⟨rfl, ?_⟩
  exact (Vars.of2 w (SegC a b c d) (SegC c d a b) 60 60).1
end Go.Proofs.YtkeljibnjpinlaaDoor
