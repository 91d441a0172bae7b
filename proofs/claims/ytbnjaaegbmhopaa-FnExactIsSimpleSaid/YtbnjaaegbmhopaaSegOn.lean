/- Segments: the contracts of chapter 5 by values, but for HowMeet. -/
import Derived.Test.YtbnjaaegbmhopaaSegI3
import Derived.Test.YtbnjaaegbmhopaaSegS2
namespace Go.Proofs.Ytbnjaaegbmhopaa
open Go.ChangeShapes Go.WideShapes Go.ChangeAt Go.RowKit
set_option linter.unusedVariables false

theorem sIsBetween_any (a b c d x y : Int) (w : World) :
    Calls Try.prog 53 #[SegV a b c d, PtV x y] w fun e w' => e = .returned (.bool (betV a b c d x y)) ∧ Below w.heap.size w w' := by
  have HB := Lib.hid (Vars.of2 w (SegC a b c d) (PtC x y) 38 25)
  go_enter Try.func53, Try.ntmps53
  go_wp2_with fail
  refine (sIsOn_any a b c d x y _).mono ?_
  obtain ⟨o, ho⟩ : ∃ o, onV a b c d x y = o := ⟨_, rfl⟩
  rw [ho]
  rintro e w1 ⟨rfl, hb1⟩
  have HB1 := Lib.hid (HB.out.next hb1)
  clear hb1 HB
  obtain ⟨k0, k1, k2, k3, k4, k5⟩ := HB1.out.c42p
  have HE : Hid (betV a b c d x y = (o && (!decide (x = a ∧ y = b) && !decide (x = c ∧ y = d)))) := Lib.hid (by rw [← ho]; rfl)
  clear ho
  cases o
  · go_wp2
    go_ret
    exact ⟨ret_eq (by rw [HE.out]; rfl), HB1.out.1⟩
  · by_cases h1 : x = a
    · by_cases h2 : y = b
      · have HF : Hid (betV a b c d x y = false) := Lib.hid (by rw [HE.out]; simp [h1, h2])
        clear HE
        subst h1 h2
        go_wp2
        go_ret
        exact ⟨ret_eq HF.out.symm, HB1.out.1⟩
      · by_cases h3 : x = c
        · by_cases h4 : y = d
          · have HF : Hid (betV a b c d x y = false) := Lib.hid (by rw [HE.out]; simp [h3, h4])
            clear HE
            subst h1 h3 h4
            go_wp2
            go_ret
            exact ⟨ret_eq HF.out.symm, HB1.out.1⟩
          · have HF : Hid (betV a b c d x y = true) := Lib.hid (by rw [HE.out]; simp [h2, h4])
            clear HE
            subst h1 h3
            go_wp2
            go_ret
            exact ⟨ret_eq HF.out.symm, HB1.out.1⟩
        · have HF : Hid (betV a b c d x y = true) := Lib.hid (by rw [HE.out]; simp [h2, h3])
          clear HE
          subst h1
          go_wp2
          go_ret
          exact ⟨ret_eq HF.out.symm, HB1.out.1⟩
    · by_cases h3 : x = c
      · by_cases h4 : y = d
        · have HF : Hid (betV a b c d x y = false) := Lib.hid (by rw [HE.out]; simp [h3, h4])
          clear HE
          subst h3 h4
          go_wp2
          go_ret
          exact ⟨ret_eq HF.out.symm, HB1.out.1⟩
        · have HF : Hid (betV a b c d x y = true) := Lib.hid (by rw [HE.out]; simp [h1, h4])
          clear HE
          subst h3
          go_wp2
          go_ret
          exact ⟨ret_eq HF.out.symm, HB1.out.1⟩
      · have HF : Hid (betV a b c d x y = true) := Lib.hid (by rw [HE.out]; simp [h1, h3])
        clear HE
        go_wp2
        go_ret
        exact ⟨ret_eq HF.out.symm, HB1.out.1⟩
theorem sIsBetween_is (a b c d x y : Int) (k : Bool) (w : World) (h : betV a b c d x y = k) :
    Calls Try.prog 53 #[SegV a b c d, PtV x y] w fun e w' => e = .returned (.bool k) ∧ Below w.heap.size w w' := by
  subst h; exact sIsBetween_any a b c d x y w
theorem isBetween_is (a b c d x y : Int) (k : Bool) (w : World) (h : betV a b c d x y = k) :
    Calls Try.prog 29 #[SegV a b c d, PtV x y] w fun e w' => e = .returned (.bool k) ∧ Below w.heap.size w w' := by
  subst h; exact isBetween_any a b c d x y w
theorem isOn_is (a b c d x y : Int) (k : Bool) (w : World) (h : onV a b c d x y = k) :
    Calls Try.prog 28 #[SegV a b c d, PtV x y] w fun e w' => e = .returned (.bool k) ∧ Below w.heap.size w w' := by
  subst h; exact isOn_any a b c d x y w
theorem isSegment_is (a b c d : Int) (k : Bool) (w : World) (h : isS a b c d = k) :
    Calls Try.prog 27 #[SegV a b c d] w fun e w' => e = .returned (.bool k) ∧ Below w.heap.size w w' := by
  subst h; exact isSegment_any a b c d w
end Go.Proofs.Ytbnjaaegbmhopaa
