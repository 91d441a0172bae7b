/- Segments: IsSegment and IsOn of the model. -/
import Derived.Test.YtbnjaaegbmhopaaGreatDoorSegI
namespace Go.Proofs.YtbnjaaegbmhopaaGreatDoor
open Go.ChangeShapes Go.WideShapes Go.ChangeAt Go.RowKit
set_option linter.unusedVariables false

theorem isS_no1 {a b c d : Int} (h : isP a b = false) : isS a b c d = false := by simp [isS, isP2, h]
theorem isS_no2 {a b c d : Int} (h : isP c d = false) : isS a b c d = false := by simp [isS, isP2, h]
theorem isS_yes {a b c d : Int} (h : isP a b = true) (h' : isP c d = true) : isS a b c d = !decide (a = c ∧ b = d) := by simp [isS, isP2, h, h']
theorem sIsSegment_any (a b c d : Int) (w : World) :
    Calls Tryz.prog 136 #[SegV a b c d] w fun e w' => e = .returned (.bool (isS a b c d)) ∧ Below w.heap.size w w' := by
  have HB := Lib.hid (Vars.of1 w (SegC a b c d) 78)
  go_enter Tryz.func136, Tryz.ntmps136
  go_wp2_with fail
  cases h1 : isP a b
  · have HE := Lib.hid (isS_no1 (c := c) (d := d) h1)
    refine (sIsPoint_is a b _ _ h1).mono ?_
    rintro e w1 ⟨rfl, hb1⟩
    have HB1 := Lib.hid (HB.out.next hb1)
    clear hb1
    go_wp2
    go_ret
    exact ⟨ret_eq HE.out.symm, HB1.out.1⟩
  · refine (sIsPoint_is a b _ _ h1).mono ?_
    rintro e w1 ⟨rfl, hb1⟩
    have HB1 := Lib.hid (HB.out.next hb1)
    clear hb1 HB
    obtain ⟨k0, k1, k2, k3⟩ := HB1.out.c40
    go_wp2_with fail
    cases h2 : isP c d
    · have HE := Lib.hid (isS_no2 (a := a) (b := b) h2)
      refine (sIsPoint_is c d _ _ h2).mono ?_
      rintro e w2 ⟨rfl, hb2⟩
      have HB2 := Lib.hid (HB1.out.next hb2)
      clear hb2
      go_wp2
      go_ret
      exact ⟨ret_eq HE.out.symm, HB2.out.1⟩
    · have HE := Lib.hid (isS_yes h1 h2)
      refine (sIsPoint_is c d _ _ h2).mono ?_
      rintro e w2 ⟨rfl, hb2⟩
      have HB2 := Lib.hid (HB1.out.next hb2)
      clear hb2 HB1 k0 k1 k2 k3 h1 h2
      obtain ⟨k0, k1, k2, k3⟩ := HB2.out.c40
      by_cases hac : a = c
      · by_cases hbd : b = d
        · have HF : Hid (isS a b c d = false) := Lib.hid (by rw [HE.out]; simp [hac, hbd])
          clear HE
          subst hac hbd
          go_wp2
          go_ret
          exact ⟨ret_eq HF.out.symm, HB2.out.1⟩
        · have HF : Hid (isS a b c d = true) := Lib.hid (by rw [HE.out]; simp [hbd])
          clear HE
          subst hac
          go_wp2
          go_ret
          exact ⟨ret_eq HF.out.symm, HB2.out.1⟩
      · have HF : Hid (isS a b c d = true) := Lib.hid (by rw [HE.out]; simp [hac])
        clear HE
        go_wp2
        go_ret
        exact ⟨ret_eq HF.out.symm, HB2.out.1⟩
theorem sIsSegment_is (a b c d : Int) (k : Bool) (w : World) (h : isS a b c d = k) :
    Calls Tryz.prog 136 #[SegV a b c d] w fun e w' => e = .returned (.bool k) ∧ Below w.heap.size w w' := by
  subst h; exact sIsSegment_any a b c d w
theorem onV_p {a b c d x y : Int} (h : isP x y = false) : onV a b c d x y = false := by
  unfold onV
  cases hs : isS a b c d
  · rfl
  · rw [Bool.true_and]
    refine decide_eq_false fun ho => ?_
    obtain ⟨h0, h1, h2, h3⟩ := on_bd hs ho
    rw [isP_of h0 h1 h2 h3] at h; cases h
theorem on_z {a b c d x y z : Int} (hz : (c - a) * (y - b) - (d - b) * (x - a) = z) (h : z ≠ 0) : onV a b c d x y = false := by
  unfold onV
  rw [decide_eq_false (fun ho : On a b c d x y => h (by rw [← hz]; exact ho.2.2.2.2)), Bool.and_false]
theorem on_xn {a b c d x y : Int} (h : inB x (extV false a c) (extV true a c) = false) : onV a b c d x y = false := by
  unfold onV
  rw [decide_eq_false (fun ho : On a b c d x y => by rw [ext_min, ext_max, inB_yes ho.1 ho.2.1] at h; cases h), Bool.and_false]
theorem on_yn {a b c d x y : Int} (h : inB y (extV false b d) (extV true b d) = false) : onV a b c d x y = false := by
  unfold onV
  rw [decide_eq_false (fun ho : On a b c d x y => by rw [ext_min, ext_max, inB_yes ho.2.2.1 ho.2.2.2.1] at h; cases h), Bool.and_false]
theorem on_all {a b c d x y : Int} (hs : isS a b c d = true) (hz : (c - a) * (y - b) - (d - b) * (x - a) = 0) (h : inB x (extV false a c) (extV true a c) = true) (h' : inB y (extV false b d) (extV true b d) = true) : onV a b c d x y = true := by
  rw [ext_min, ext_max] at h h'
  obtain ⟨x0, x1⟩ := inB_bd h
  obtain ⟨y0, y1⟩ := inB_bd h'
  exact onV_iff.2 ⟨hs, x0, x1, y0, y1, hz⟩
end Go.Proofs.YtbnjaaegbmhopaaGreatDoor
