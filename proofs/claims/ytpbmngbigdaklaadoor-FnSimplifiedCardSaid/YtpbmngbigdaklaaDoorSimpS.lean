/- Simpler lines: the model's l11Far and IsNear. -/
import Derived.Test.YtpbmngbigdaklaaDoorSimpF
import Derived.Test.YtpbmngbigdaklaaDoorSegS
import Derived.Test.YtpbmngbigdaklaaDoorPoint3
namespace Go.Proofs.YtpbmngbigdaklaaDoor
open Go.ChangeShapes Go.WideShapes Go.ChangeAt Go.RowKit
set_option linter.unusedVariables false

theorem sq_bd {x k : Int} (h : -k ≤ x) (h1 : x ≤ k) : 0 ≤ x * x ∧ x * x ≤ k * k := by
  refine ⟨sq_nn x, ?_⟩
  rw [← Int.natAbs_mul_self' x]
  exact Int.mul_le_mul (by omega) (by omega) (Int.natCast_nonneg _) (by omega)
/-- How great the fractions are. -/
theorem far_bd {a b c d x y : Int} (hA : 0 ≤ a ∧ a ≤ 200 ∧ 0 ≤ b ∧ b ≤ 200) (hC : 0 ≤ c ∧ c ≤ 200 ∧ 0 ≤ d ∧ d ≤ 200) (hX : 0 ≤ x ∧ x ≤ 200 ∧ 0 ≤ y ∧ y ≤ 200) :
    (0 ≤ (farD a b c d x y).1 ∧ (farD a b c d x y).1 ≤ 6400000000) ∧ (1 ≤ (farD a b c d x y).2 ∧ (farD a b c d x y).2 ≤ 80000) := by
  have m1 := mul_bd (u := c - a) (v := y - b) (by omega) (by omega) (by omega) (by omega)
  have m2 := mul_bd (u := d - b) (v := x - a) (by omega) (by omega) (by omega) (by omega)
  have s1 := sq_bd (x := c - a) (k := 200) (by omega) (by omega)
  have s2 := sq_bd (x := d - b) (k := 200) (by omega) (by omega)
  have s3 := sq_bd (x := a - x) (k := 200) (by omega) (by omega)
  have s4 := sq_bd (x := b - y) (k := 200) (by omega) (by omega)
  have s5 := sq_bd (x := c - x) (k := 200) (by omega) (by omega)
  have s6 := sq_bd (x := d - y) (k := 200) (by omega) (by omega)
  have s7 := sq_bd (x := crsD a b c d x y) (k := 80000) (by unfold crsD; omega) (by unfold crsD; omega)
  refine ⟨?_, far_den, ?_⟩
  · unfold farD sqD
    split
    · dsimp only; omega
    · split <;> (dsimp only; omega)
  · unfold farD lngD
    split
    · dsimp only; omega
    · split <;> (dsimp only; omega)
set_option maxRecDepth 100000 in
set_option maxHeartbeats 1000000 in
theorem sFar_is (a b c d x y n m : Int) (w : World) (h1 : isP a b = true) (h2 : isP c d = true) (h3 : isP x y = true) (hf : farD a b c d x y = (n, m)) :
    Calls Tryd.prog 63 #[PtV a b, PtV c d, PtV x y] w fun e w' => e = .returned (.tuple #[.int .i64 n, .int .i64 m]) ∧ Below w.heap.size w w' := by
  have hA := isP_bd h1; have hC := isP_bd h2; have hX := isP_bd h3
  have HB := Lib.hid (Boxes.of3 (a := a) (b := b) (c := c) (d := d) (x := x) (y := y) w 33)
  have HF := Lib.hid hf
  clear hf
  have m1 := mul_bd (u := x - a) (v := c - a) (by omega) (by omega) (by omega) (by omega)
  have m2 := mul_bd (u := y - b) (v := d - b) (by omega) (by omega) (by omega) (by omega)
  have s1 := mul_bd (u := c - a) (v := c - a) (by omega) (by omega) (by omega) (by omega)
  have s2 := mul_bd (u := d - b) (v := d - b) (by omega) (by omega) (by omega) (by omega)
  go_enter Tryd.func63, Tryd.ntmps63
  by_cases hat : (x - a) * (c - a) + (y - b) * (d - b) ≤ 0
  · have HV : Hid (farV a b x y = n ∧ 1 = m) := Lib.hid (by
      have h := HF.out
      unfold farD at h
      rw [if_pos (show atD a b c d x y ≤ 0 from hat), Prod.mk.injEq] at h
      rw [far_yes (by simp [isP2, h1, h3])]
      exact h)
    go_wp2_with fail
    refine (sFarSquared_any a b x y _).mono ?_
    rintro e w1 ⟨rfl, hb1⟩
    obtain ⟨hv, rfl⟩ := HV.out
    go_wp2
    go_ret2
    exact ⟨rfl, (HB.out.next hb1).1⟩
  by_cases hlg : (c - a) * (c - a) + (d - b) * (d - b) ≤ (x - a) * (c - a) + (y - b) * (d - b)
  · have HV : Hid (farV c d x y = n ∧ 1 = m) := Lib.hid (by
      have h := HF.out
      unfold farD at h
      rw [if_neg (show ¬ atD a b c d x y ≤ 0 from hat), if_pos (show lngD a b c d ≤ atD a b c d x y from hlg), Prod.mk.injEq] at h
      rw [far_yes (by simp [isP2, h2, h3])]
      exact h)
    go_wp2_with fail
    refine (sFarSquared_any c d x y _).mono ?_
    rintro e w1 ⟨rfl, hb1⟩
    obtain ⟨hv, rfl⟩ := HV.out
    go_wp2
    go_ret2
    exact ⟨rfl, (HB.out.next hb1).1⟩
  · obtain ⟨z, hz⟩ : ∃ z, (c - a) * (y - b) - (d - b) * (x - a) = z := ⟨_, rfl⟩
    have hzb : -80000 ≤ z ∧ z ≤ 80000 := by
      have q1 := mul_bd (u := c - a) (v := y - b) (by omega) (by omega) (by omega) (by omega)
      have q2 := mul_bd (u := d - b) (v := x - a) (by omega) (by omega) (by omega) (by omega)
      omega
    have hsq := sq_bd (x := z) (k := 80000) (by omega) (by omega)
    have HV : Hid (z * z = n ∧ (c - a) * (c - a) + (d - b) * (d - b) = m) := Lib.hid (by
      have h := HF.out
      unfold farD at h
      rw [if_neg (show ¬ atD a b c d x y ≤ 0 from hat), if_neg (show ¬ lngD a b c d ≤ atD a b c d x y from hlg), Prod.mk.injEq] at h
      rw [← hz]
      exact h)
    have HZ := Lib.hid hz
    clear hz
    go_wp2_with fail
    refine (cross_is a b c d x y z _ hA hC hX HZ.out).mono ?_
    rintro e w1 ⟨rfl, hb1⟩
    obtain ⟨hv, hm⟩ := HV.out
    go_wp2
    go_ret2
    exact ⟨rfl, (HB.out.next hb1).1⟩
end Go.Proofs.YtpbmngbigdaklaaDoor
