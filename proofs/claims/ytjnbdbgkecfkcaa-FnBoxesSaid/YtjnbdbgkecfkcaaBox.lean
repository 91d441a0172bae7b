/- Boxes: values, and the functions of chapter 8 of the model. -/
import Derived.Test.YtjnbdbgkecfkcaaBoxV
import Derived.Test.YtjnbdbgkecfkcaaHelpE
import Derived.Test.YtjnbdbgkecfkcaaOpenPts
namespace Go.Proofs.Ytjnbdbgkecfkcaa
open Go.ChangeShapes Go.WideShapes Go.ChangeAt Go.RowKit
set_option linter.unusedVariables false

set_option maxHeartbeats 1000000 in
theorem sIsBox_is (a b c d : Int) (z : Bool) (w : World) (hz : isBx a b c d = z) :
    Calls Try.prog 64 #[SegV a b c d] w fun e w' => e = .returned (.bool z) ∧ Below w.heap.size w w' := by
  have HB := Lib.hid (Vars.of1 w (SegC a b c d) 48)
  go_enter Try.func64, Try.ntmps64
  obtain ⟨k0, k1, k2, k3⟩ := HB.out.c40
  cases h1 : isP a b
  · obtain rfl : z = false := hz.symm.trans (isBx_1 h1)
    clear hz
    go_wp2_with fail
    refine (sIsPoint_is a b false _ h1).mono ?_
    rintro e w1 ⟨rfl, hb1⟩
    have HB1 := Lib.hid (HB.out.next hb1)
    clear hb1
    go_wp2
    go_ret
    exact ⟨rfl, HB1.out.1⟩
  · go_wp2_with fail
    refine (sIsPoint_is a b true _ h1).mono ?_
    rintro e w1 ⟨rfl, hb1⟩
    have HB1 := Lib.hid (HB.out.next hb1)
    obtain ⟨k0, k1, k2, k3⟩ := HB1.out.c40
    clear hb1
    cases h2 : isP c d
    · obtain rfl : z = false := hz.symm.trans (isBx_2 h2)
      clear hz
      go_wp2_with fail
      refine (sIsPoint_is c d false _ h2).mono ?_
      rintro e w2 ⟨rfl, hb2⟩
      have HB2 := Lib.hid (HB1.out.next hb2)
      clear hb2
      go_wp2
      go_ret
      exact ⟨rfl, HB2.out.1⟩
    · go_wp2_with fail
      refine (sIsPoint_is c d true _ h2).mono ?_
      rintro e w2 ⟨rfl, hb2⟩
      have HB2 := Lib.hid (HB1.out.next hb2)
      obtain ⟨k0, k1, k2, k3⟩ := HB2.out.c40
      clear hb2
      have HZ := Lib.hid hz
      clear hz
      go_wp2
      all_goals
        go_ret
        refine ⟨ret_eq ?_, HB2.out.1⟩
        rw [← HZ.out]
        rw [Bool.eq_iff_iff]
        simp only [isBx, h1, h2, Bool.true_and, Bool.and_eq_true, decide_eq_true_eq, Bool.false_eq_true, false_iff, not_and]
        first | omega | grind
set_option maxHeartbeats 1000000 in
theorem sBoxesMeet_is (a b c d p q r s : Int) (z : Bool) (w : World) (hz : mtB a b c d p q r s = z) :
    Calls Try.prog 41 #[SegV a b c d, SegV p q r s] w fun e w' => e = .returned (.bool z) ∧ Below w.heap.size w w' := by
  have HB := Lib.hid (Vars.of2 w (SegC a b c d) (SegC p q r s) 48 48)
  have HZ := Lib.hid hz
  clear hz
  go_enter Try.func41, Try.ntmps41
  obtain ⟨k0, k1, k2, k3, k4, k5, k6, k7⟩ := HB.out.c44
  go_wp2_with fail
  obtain ⟨u, hu⟩ : ∃ u, isBx a b c d = u := ⟨_, rfl⟩
  refine (sIsBox_is a b c d u _ hu).mono ?_
  rintro e w1 ⟨rfl, hb1⟩
  have HB1 := Lib.hid (HB.out.next hb1)
  clear hb1 k0 k1 k2 k3 k4 k5 k6 k7 HB
  obtain ⟨k0, k1, k2, k3, k4, k5, k6, k7⟩ := HB1.out.c44
  cases u
  · go_wp2
    go_ret
    exact ⟨ret_eq (by rw [← HZ.out]; simp [mtB, hu]), HB1.out.1⟩
  · go_wp2_with fail
    obtain ⟨v, hv⟩ : ∃ v, isBx p q r s = v := ⟨_, rfl⟩
    refine (sIsBox_is p q r s v _ hv).mono ?_
    rintro e w2 ⟨rfl, hb2⟩
    have HB2 := Lib.hid (HB1.out.next hb2)
    clear hb2 k0 k1 k2 k3 k4 k5 k6 k7 HB1
    obtain ⟨k0, k1, k2, k3, k4, k5, k6, k7⟩ := HB2.out.c44
    cases v
    · go_wp2
      go_ret
      exact ⟨ret_eq (by rw [← HZ.out]; simp [mtB, hu, hv]), HB2.out.1⟩
    · go_wp2
      all_goals
        go_ret
        refine ⟨ret_eq ?_, HB2.out.1⟩
        rw [← HZ.out]
        rw [Bool.eq_iff_iff]
        simp only [mtB, hu, hv, Bool.true_and, Bool.and_eq_true, decide_eq_true_eq, Bool.false_eq_true, false_iff, not_and]
        first | omega | grind
end Go.Proofs.Ytjnbdbgkecfkcaa
