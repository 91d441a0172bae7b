/- Points: distances, the order, moves: package impl and the model. -/
import Derived.Test.YtpbmngbigdaklaaDoorPoint2
namespace Go.Proofs.YtpbmngbigdaklaaDoor
open Go.ChangeShapes Go.WideShapes Go.ChangeAt Go.RowKit
set_option linter.unusedVariables false

theorem wrap_id {x : Int} (h : -1000000 ≤ x ∧ x ≤ 1000000) : IntKind.i64.wrap x = x := by rw [IntKind.wrap_i64]; omega
theorem sFarSquared_any (a b c d : Int) (w : World) :
    Calls Tryd.prog 70 #[PtV a b, PtV c d] w fun e w' => e = .returned (.int .i64 (farV a b c d)) ∧ Below w.heap.size w w' := by
  go_enter Tryd.func70, Tryd.ntmps70
  go_wp2_with fail
  cases h1 : isP a b
  · have hs : farV a b c d = -1 := far_no (by simp [isP2, h1])
    refine (sIsPoint_is a b _ _ h1).mono ?_
    rintro e w1 ⟨rfl, hb1⟩
    go_wp2
    go_ret
    exact ⟨ret_int hs.symm, ((Boxes.of2 w 33).next hb1).1⟩
  · refine (sIsPoint_is a b _ _ h1).mono ?_
    rintro e w1 ⟨rfl, hb1⟩
    have HB := Lib.hid ((Boxes.of2 w 33).next hb1)
    obtain ⟨k0, k1, k2, k3⟩ := HB.out.c2
    clear hb1
    go_wp2_with fail
    cases h2 : isP c d
    · have hs : farV a b c d = -1 := far_no (by simp [isP2, h2])
      refine (sIsPoint_is c d _ _ h2).mono ?_
      rintro e w2 ⟨rfl, hb2⟩
      go_wp2
      go_ret
      exact ⟨ret_int hs.symm, (HB.out.next hb2).1⟩
    · refine (sIsPoint_is c d _ _ h2).mono ?_
      rintro e w2 ⟨rfl, hb2⟩
      have HB2 := Lib.hid (HB.out.next hb2)
      clear hb2 HB k0 k1 k2 k3
      obtain ⟨k0, k1, k2, k3⟩ := HB2.out.c2
      have h : isP2 a b c d = true := by simp [isP2, h1, h2]
      have HS := Lib.hid (far_yes h)
      obtain ⟨hA, hC⟩ := isP2_bd h
      clear h h1 h2
      have m1 := mul_bd (u := a - c) (v := a - c) (by omega) (by omega) (by omega) (by omega)
      have m2 := mul_bd (u := b - d) (v := b - d) (by omega) (by omega) (by omega) (by omega)
      go_wp2
      go_ret
      exact ⟨ret_int HS.out.symm, HB2.out.1⟩
/-- The order of points: by rows. -/
def befV (a b c d : Int) : Bool := decide (b < d ∨ b = d ∧ a < c)
theorem bef_1 {a b c d : Int} (h : b < d) : befV a b c d = true := by unfold befV; exact decide_eq_true (by omega)
theorem bef_2 {a b c d : Int} (h : ¬ b < d) (h' : ¬ b = d) : befV a b c d = false := by unfold befV; exact decide_eq_false (by omega)
theorem bef_3 {a b c d : Int} (h' : b = d) : befV a b c d = decide (a < c) := by unfold befV; exact decide_eq_decide.2 (by omega)
end Go.Proofs.YtpbmngbigdaklaaDoor
