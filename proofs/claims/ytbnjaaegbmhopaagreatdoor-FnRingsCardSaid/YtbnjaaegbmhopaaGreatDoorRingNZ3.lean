/- Darts, triangles, and the shapes with two corners swapped have an area if they are rings. -/
import Derived.Test.YtbnjaaegbmhopaaGreatDoorRingNZ
namespace Go.Proofs.YtbnjaaegbmhopaaGreatDoor
set_option linter.unusedVariables false

set_option maxHeartbeats 32000000 in
/-- The dart, one corner anywhere. -/
theorem nz_dart {x y w h X Y : Int} (hw : 2 ≤ w ∧ w ≤ 7) (hh : 2 ≤ h ∧ h ≤ 7) (hr : isRg [(X, Y), (x + w, y + 1), (x + 2 * w, y), (x + w, y + h)] = true) : twA [(X, Y), (x + w, y + 1), (x + 2 * w, y), (x + w, y + h)] ≠ 0 := by
  refine twA_nz hr (z := (h - 1) * (2 * w - (X - x))) (by simp [rgS, jts, arS]; grind) fun h0 => ?_
  have p1 : howV X Y (x + w) (y + 1) (x + 2 * w) y (x + w) (y + h) = 0 := rg_apart hr (i := 0) (k := 2) (u := (X, Y, x + w, y + 1)) (v := (x + 2 * w, y, x + w, y + h)) rfl rfl (by decide) (by rw [rgS_len]; simp [adjC])
  have p2 : howV (x + w) (y + h) X Y (x + w) (y + 1) (x + 2 * w) y = 0 := rg_apart hr (i := 3) (k := 1) (u := (x + w, y + h, X, Y)) (v := (x + w, y + 1, x + 2 * w, y)) rfl rfl (by decide) (by rw [rgS_len]; simp [adjC])
  have s0 : isS X Y (x + w) (y + 1) = true := rg_seg hr (i := 0) rfl
  have s1 : isS (x + w) (y + 1) (x + 2 * w) y = true := rg_seg hr (i := 1) rfl
  have s2 : isS (x + 2 * w) y (x + w) (y + h) = true := rg_seg hr (i := 2) rfl
  have s3 : isS X Y (x + w) (y + h) = true := by rw [isS_turn]; exact rg_seg hr (i := 3) rfl
  rw [how_turn] at p2
  have hX : X = x + 2 * w := by
    rcases Int.mul_eq_zero.1 h0 with k | k <;> omega
  subst hX
  have e1 : w = 2 ∨ w = 3 ∨ w = 4 ∨ w = 5 ∨ w = 6 ∨ w = 7 := by omega
  have e2 : h = 2 ∨ h = 3 ∨ h = 4 ∨ h = 5 ∨ h = 6 ∨ h = 7 := by omega
  clear hr hw hh h0
  rcases Int.le_total y Y with hk | hk
  · clear p2
    rcases e1 with rfl | rfl | rfl | rfl | rfl | rfl <;> rcases e2 with rfl | rfl | rfl | rfl | rfl | rfl <;>
      exact how_from s0 s2 (by unfold Apart; omega) (by unfold Opp crs; omega) (by unfold Opp crs; omega) p1
  · clear p1
    rcases e1 with rfl | rfl | rfl | rfl | rfl | rfl <;> rcases e2 with rfl | rfl | rfl | rfl | rfl | rfl <;>
      exact how_from s3 s1 (by unfold Apart; omega) (by unfold Opp crs; omega) (by unfold Opp crs; omega) p2
/-- Two segments of one line that touch. -/
theorem how_spot {a b c d p q r s : Int} (hs : isS a b c d = true) (ht : isS p q r s = true) (h1 : crs a b c d p q = 0) (h2 : crs a b c d r s = 0) (h : howV a b c d p q r s = 1) : Spot a b c d p q r s := by
  obtain ⟨g1, g2, -, -⟩ := signs hs ht
  unfold howV at h
  rw [if_pos ⟨hs, ht⟩, g1, g2, h1, h2] at h
  by_cases hx : Apart a b c d p q r s
  · rw [if_pos hx] at h; cases h
  · rw [if_neg hx, if_pos ⟨sg_zero.2 rfl, sg_zero.2 rfl⟩] at h
    by_cases hp : Spot a b c d p q r s
    · exact hp
    · rw [if_neg hp] at h; cases h
/-- The triangle, one corner anywhere. -/
theorem nz_tri {x y w h X Y : Int} (hw : 2 ≤ w ∧ w ≤ 7) (hh : 2 ≤ h ∧ h ≤ 7) (hr : isRg [(X, Y), (x + w, y), (x, y + h)] = true) : twA [(X, Y), (x + w, y), (x, y + h)] ≠ 0 := by
  refine twA_nz hr (z := w * h - w * (Y - y) - h * (X - x)) (by simp [rgS, jts, arS]; grind) fun h0 => ?_
  have t1 : howV X Y (x + w) y (x + w) y x (y + h) = 1 := rg_touch hr (i := 0) (k := 1) (u := (X, Y, x + w, y)) (v := (x + w, y, x, y + h)) rfl rfl (by decide) (by rw [rgS_len]; simp [adjC])
  have t2 : howV (x + w) y x (y + h) x (y + h) X Y = 1 := rg_touch hr (i := 1) (k := 2) (u := (x + w, y, x, y + h)) (v := (x, y + h, X, Y)) rfl rfl (by decide) (by rw [rgS_len]; simp [adjC])
  have s0 : isS X Y (x + w) y = true := rg_seg hr (i := 0) rfl
  have s1 : isS (x + w) y x (y + h) = true := rg_seg hr (i := 1) rfl
  have s2 : isS x (y + h) X Y = true := rg_seg hr (i := 2) rfl
  have q1 := how_spot s0 s1 (by unfold crs; grind) (by unfold crs; grind) t1
  have q2 := how_spot s1 s2 (by unfold crs; grind) (by unfold crs; grind) t2
  unfold Spot at q1 q2
  omega
/-- Swapped: a square's segments cross. -/
theorem sw_sq {x y w h : Int} (hw : 2 ≤ w ∧ w ≤ 7) (hh : 2 ≤ h ∧ h ≤ 7) (hr : isRg [(x + w, y), (x, y), (x + w, y + h), (x, y + h)] = true) : twA [(x + w, y), (x, y), (x + w, y + h), (x, y + h)] ≠ 0 := by
  exfalso
  have p1 : howV x y (x + w) (y + h) x (y + h) (x + w) y = 0 := rg_apart hr (i := 1) (k := 3) (u := (x, y, x + w, y + h)) (v := (x, y + h, x + w, y)) rfl rfl (by decide) (by rw [rgS_len]; simp [adjC])
  have s1 : isS x y (x + w) (y + h) = true := rg_seg hr (i := 1) rfl
  have s3 : isS x (y + h) (x + w) y = true := rg_seg hr (i := 3) rfl
  have hp : 0 < w * h := Int.mul_pos (by omega) (by omega)
  have c1 : crs x y (x + w) (y + h) x (y + h) = w * h := by unfold crs; grind
  have c2 : crs x y (x + w) (y + h) (x + w) y = -(w * h) := by unfold crs; grind
  have c3 : crs x (y + h) (x + w) y x y = -(w * h) := by unfold crs; grind
  have c4 : crs x (y + h) (x + w) y (x + w) (y + h) = w * h := by unfold crs; grind
  exact how_meet s1 s3 (by unfold Apart; omega) (by rw [c1, c2]; unfold Opp; omega) (by rw [c3, c4]; unfold Opp; omega) p1
/-- Swapped: a triangle keeps an area. -/
theorem sw_tri {x y w h : Int} (hw : 2 ≤ w ∧ w ≤ 7) (hh : 2 ≤ h ∧ h ≤ 7) (hr : isRg [(x + w, y), (x, y), (x, y + h)] = true) : twA [(x + w, y), (x, y), (x, y + h)] ≠ 0 := by
  have hp : 0 < w * h := Int.mul_pos (by omega) (by omega)
  exact twA_nz hr (z := -(w * h)) (by simp [rgS, jts, arS]; grind) (by omega)
/-- Swapped: a dart keeps an area. -/
theorem sw_dart {x y w h : Int} (hw : 2 ≤ w ∧ w ≤ 7) (hh : 2 ≤ h ∧ h ≤ 7) (hr : isRg [(x + w, y + 1), (x, y), (x + 2 * w, y), (x + w, y + h)] = true) : twA [(x + w, y + 1), (x, y), (x + 2 * w, y), (x + w, y + h)] ≠ 0 := by
  have hp : 0 < w * (h + 1) := Int.mul_pos (by omega) (by omega)
  exact twA_nz hr (z := w * (h + 1)) (by simp [rgS, jts, arS]; grind) (by omega)
/-- Swapped: a hexagon's segments touch. -/
theorem sw_hex {x y w h : Int} (hw : 2 ≤ w ∧ w ≤ 7) (hh : 2 ≤ h ∧ h ≤ 7) (hr : isRg [(x + 2 * w, y), (x, y), (x + 2 * w, y + h), (x + w, y + h), (x + w, y + 2 * h), (x, y + 2 * h)] = true) : twA [(x + 2 * w, y), (x, y), (x + 2 * w, y + h), (x + w, y + h), (x + w, y + 2 * h), (x, y + 2 * h)] ≠ 0 := by
  exfalso
  have p1 : howV x (y + 2 * h) (x + 2 * w) y (x + 2 * w) (y + h) (x + w) (y + h) = 0 := rg_apart hr (i := 5) (k := 2) (u := (x, y + 2 * h, x + 2 * w, y)) (v := (x + 2 * w, y + h, x + w, y + h)) rfl rfl (by decide) (by rw [rgS_len]; simp [adjC])
  have s5 : isS x (y + 2 * h) (x + 2 * w) y = true := rg_seg hr (i := 5) rfl
  have s2 : isS (x + 2 * w) (y + h) (x + w) (y + h) = true := rg_seg hr (i := 2) rfl
  have hp : 0 < w * h := Int.mul_pos (by omega) (by omega)
  have c2 : crs x (y + 2 * h) (x + 2 * w) y (x + w) (y + h) = 0 := by unfold crs; grind
  have c3 : crs (x + 2 * w) (y + h) (x + w) (y + h) x (y + 2 * h) = -(w * h) := by unfold crs; grind
  have c4 : crs (x + 2 * w) (y + h) (x + w) (y + h) (x + 2 * w) y = w * h := by unfold crs; grind
  exact how_meet s5 s2 (by unfold Apart; omega) (by rw [c2]; unfold Opp; omega) (by rw [c3, c4]; unfold Opp; omega) p1
end Go.Proofs.YtbnjaaegbmhopaaGreatDoor
