/- Simpler lines: the model's l11Far and IsNear. -/
import Derived.Test.YtpbmngbigdaklaaSimpF
import Derived.Test.YtpbmngbigdaklaaSegS
import Derived.Test.YtpbmngbigdaklaaPoint3
namespace Go.Proofs.Ytpbmngbigdaklaa
open Go.ChangeShapes Go.WideShapes Go.ChangeAt Go.RowKit
set_option linter.unusedVariables false

theorem sq_bd {x k : Int} (h : -k ≤ x) (h1 : x ≤ k) : 0 ≤ x * x ∧ x * x ≤ k * k := by
  refine ⟨sq_nn x, ?_⟩
  rw [← Int.natAbs_mul_self' x]
  exact Int.mul_le_mul (by omega) (by omega) (Int.natCast_nonneg _) (by omega)
/-- How great the fractions are. -/
theorem far_bd {a b c d x y : Int} (hA : 0 ≤ a ∧ a ≤ 200 ∧ 0 ≤ b ∧ b ≤ 200) (hC : 0 ≤ c ∧ c ≤ 200 ∧ 0 ≤ d ∧ d ≤ 200) (hX : 0 ≤ x ∧ x ≤ 200 ∧ 0 ≤ y ∧ y ≤ 200) :
    (0 ≤ (farD a b c d x y).1 ∧ (farD a b c d x y).1 ≤ 6400000000) ∧ (1 ≤ (farD a b c d x y).2 ∧ (farD a b c d x y).2 ≤ 80000) := by
  have m1 := mul_bd (u := c - a) (v := y - b) (by omega) (by omega) (by omega) (by omega)
  have m2 := mul_bd (u := d - b) (v := x - a) (by omega) (by omega) (by omega) (by omega)
  have s1 := sq_bd (x := c - a) (k := 200) (by omega) (by omega)
  have s2 := sq_bd (x := d - b) (k := 200) (by omega) (by omega)
  have s3 := sq_bd (x := a - x) (k := 200) (by omega) (by omega)
  have s4 := sq_bd (x := b - y) (k := 200) (by omega) (by omega)
  have s5 := sq_bd (x := c - x) (k := 200) (by omega) (by omega)
  have s6 := sq_bd (x := d - y) (k := 200) (by omega) (by omega)
  have s7 := sq_bd (x := crsD a b c d x y) (k := 80000) (by unfold crsD; omega) (by unfold crsD; omega)
  refine ⟨?_, far_den, ?_⟩
  · unfold farD sqD
    split
    · dsimp only; omega
    · split <;> (dsimp only; omega)
  · unfold farD lngD
    split
    · dsimp only; omega
    · split <;> (dsimp only; omega)
set_option maxRecDepth 100000 in
set_option maxHeartbeats 1000000 in
theorem sFar_is (a b c d x y n m : Int) (w : World) (h1 : isP a b = true) (h2 : isP c d = true) (h3 : isP x y = true) (hf : farD a b c d x y = (n, m)) :
    Calls Try.prog 20 #[PtV a b, PtV c d, PtV x y] w fun e w' => e = .returned (.tuple #[.int .i64 n, .int .i64 m]) ∧ Below w.heap.size w w' := by
  have hA := isP_bd h1; have hC := isP_bd h2; have hX := isP_bd h3
  have HB := Lib.hid (Boxes.of3 (a := a) (b := b) (c := c) (d := d) (x := x) (y := y) w 27)
  have HF := Lib.hid hf
  clear hf
  have m1 := mul_bd (u := x - a) (v := c - a) (by omega) (by omega) (by omega) (by omega)
  have m2 := mul_bd (u := y - b) (v := d - b) (by omega) (by omega) (by omega) (by omega)
  have s1 := mul_bd (u := c - a) (v := c - a) (by omega) (by omega) (by omega) (by omega)
  have s2 := mul_bd (u := d - b) (v := d - b) (by omega) (by omega) (by omega) (by omega)
  go_enter Try.func20, Try.ntmps20
  by_cases hat : (x - a) * (c - a) + (y - b) * (d - b) ≤ 0
  · have HV : Hid (farV a b x y = n ∧ 1 = m) := Lib.hid (by
      have h := HF.out
      unfold farD at h
      rw [if_pos (show atD a b c d x y ≤ 0 from hat), Prod.mk.injEq] at h
      rw [far_yes (by simp [isP2, h1, h3])]
      exact h)
    go_wp2_with fail
    refine (sFarSquared_any a b x y _).mono ?_
    rintro e w1 ⟨rfl, hb1⟩
    obtain ⟨hv, rfl⟩ := HV.out
    go_wp2
    go_ret2
    exact ⟨rfl, (HB.out.next hb1).1⟩
  by_cases hlg : (c - a) * (c - a) + (d - b) * (d - b) ≤ (x - a) * (c - a) + (y - b) * (d - b)
  · have HV : Hid (farV c d x y = n ∧ 1 = m) := Lib.hid (by
      have h := HF.out
      unfold farD at h
      rw [if_neg (show ¬ atD a b c d x y ≤ 0 from hat), if_pos (show lngD a b c d ≤ atD a b c d x y from hlg), Prod.mk.injEq] at h
      rw [far_yes (by simp [isP2, h2, h3])]
      exact h)
    go_wp2_with fail
    refine (sFarSquared_any c d x y _).mono ?_
    rintro e w1 ⟨rfl, hb1⟩
    obtain ⟨hv, rfl⟩ := HV.out
    go_wp2
    go_ret2
    exact ⟨rfl, (HB.out.next hb1).1⟩
  · obtain ⟨z, hz⟩ : ∃ z, (c - a) * (y - b) - (d - b) * (x - a) = z := ⟨_, rfl⟩
    have hzb : -80000 ≤ z ∧ z ≤ 80000 := by
      have q1 := mul_bd (u := c - a) (v := y - b) (by omega) (by omega) (by omega) (by omega)
      have q2 := mul_bd (u := d - b) (v := x - a) (by omega) (by omega) (by omega) (by omega)
      omega
    have hsq := sq_bd (x := z) (k := 80000) (by omega) (by omega)
    have HV : Hid (z * z = n ∧ (c - a) * (c - a) + (d - b) * (d - b) = m) := Lib.hid (by
      have h := HF.out
      unfold farD at h
      rw [if_neg (show ¬ atD a b c d x y ≤ 0 from hat), if_neg (show ¬ lngD a b c d ≤ atD a b c d x y from hlg), Prod.mk.injEq] at h
      rw [← hz]
      exact h)
    have HZ := Lib.hid hz
    clear hz
    go_wp2_with fail
    refine (cross_is a b c d x y z _ hA hC hX HZ.out).mono ?_
    rintro e w1 ⟨rfl, hb1⟩
    obtain ⟨hv, hm⟩ := HV.out
    go_wp2
    go_ret2
    exact ⟨rfl, (HB.out.next hb1).1⟩
set_option maxRecDepth 100000 in
set_option maxHeartbeats 1000000 in
theorem sIsNear_is (a b c d x y n : Int) (z : Bool) (w : World) (hz : nearV a b c d x y n = z) :
    Calls Try.prog 6 #[SegV a b c d, PtV x y, .int .i64 n] w fun e w' => e = .returned (.bool z) ∧ Below w.heap.size w w' := by
  have HV := Lib.hid (Vars.of2 w (SegC a b c d) #[.int .i64 x, .int .i64 y] 29 27)
  have HZ := Lib.hid hz
  clear hz
  go_enter Try.func6, Try.ntmps6
  cases h1 : isS a b c d
  · obtain rfl : false = z := by rw [← HZ.out]; simp [nearV, h1]
    go_wp2_with fail
    refine (sIsSegment_is a b c d _ _ h1).mono ?_
    rintro e w1 ⟨rfl, hb1⟩
    go_wp2
    go_ret
    exact ⟨rfl, (HV.out.next hb1).1⟩
  go_wp2_with fail
  refine (sIsSegment_is a b c d _ _ h1).mono ?_
  rintro e w1 ⟨rfl, hb1⟩
  have HV := Lib.hid (HV.out.next hb1)
  clear hb1
  obtain ⟨k0, k1⟩ := HV.out.c2 (w.heap.size + 1) 1 rfl rfl
  cases h2 : isP x y
  · obtain rfl : false = z := by rw [← HZ.out]; simp [nearV, h2]
    go_wp2_with fail
    refine (sIsPoint_is x y _ _ h2).mono ?_
    rintro e w2 ⟨rfl, hb2⟩
    go_wp2
    go_ret
    exact ⟨rfl, (HV.out.next hb2).1⟩
  go_wp2_with fail
  refine (sIsPoint_is x y _ _ h2).mono ?_
  rintro e w2 ⟨rfl, hb2⟩
  have HV := Lib.hid (HV.out.next hb2)
  clear hb2 k0 k1
  cases h3 : inB n 0 200
  · obtain rfl : false = z := by rw [← HZ.out]; simp [nearV, h3]
    go_wp2_with fail
    refine (l1in_is _ _ _ _ _ h3).mono ?_
    rintro e w3 ⟨rfl, rfl⟩
    go_wp2
    go_ret
    exact ⟨rfl, HV.out.1⟩
  go_wp2_with fail
  refine (l1in_is _ _ _ _ _ h3).mono ?_
  rintro e w3 ⟨rfl, rfl⟩
  obtain ⟨k0, k1⟩ := HV.out.c2 (w.heap.size + 1) 1 rfl rfl
  obtain ⟨q0, q1, q2, q3⟩ := HV.out.c40
  have hn : 0 ≤ n ∧ n ≤ 200 := by simp only [inB, decide_eq_true_eq] at h3; exact h3
  have hS := isS_at h1
  have hbd := far_bd hS.1 hS.2.1 (isP_bd h2)
  obtain ⟨⟨u, v⟩, hf⟩ : ∃ f, farD a b c d x y = f := ⟨_, rfl⟩
  have HF := Lib.hid hf
  have HX : Hid (decide (u ≤ n * n * v) = z) := Lib.hid (by rw [← HZ.out]; simp [nearV, nearD, h1, h2, h3, hf])
  rw [hf] at hbd
  obtain ⟨⟨u0, u1⟩, v0, v1⟩ := hbd
  dsimp only at u0 u1 v0 v1
  have hnn := mul_bd (u := n) (v := n) (by omega) (by omega) (by omega) (by omega)
  have hnn0 := sq_nn n
  have hnv : 0 ≤ n * n * v ∧ n * n * v ≤ 40000 * 80000 := ⟨Int.mul_nonneg hnn0 (by omega), Int.mul_le_mul hnn.2 v1 (by omega) (by omega)⟩
  have hP := hS.1; have hQ := hS.2.1
  clear hf hS
  go_wp2_with fail
  refine (sFar_is a b c d x y u v _ (isP_of hP.1 hP.2.1 hP.2.2.1 hP.2.2.2) (isP_of hQ.1 hQ.2.1 hQ.2.2.1 hQ.2.2.2) h2 HF.out).mono ?_
  rintro e w4 ⟨rfl, hb4⟩
  have HV := Lib.hid (HV.out.next hb4)
  clear hb4
  go_wp2
  go_ret
  exact ⟨by rw [← HX.out]; rfl, HV.out.1⟩
end Go.Proofs.Ytpbmngbigdaklaa
