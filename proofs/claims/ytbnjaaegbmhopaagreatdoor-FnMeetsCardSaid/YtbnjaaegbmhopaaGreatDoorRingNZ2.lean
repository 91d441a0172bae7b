/- The hexagon has an area. -/
import Derived.Test.YtbnjaaegbmhopaaGreatDoorRingNZ
namespace Go.Proofs.YtbnjaaegbmhopaaGreatDoor
set_option linter.unusedVariables false

set_option maxHeartbeats 32000000 in
/-- The hexagon, one corner anywhere. -/
theorem nz_hex {x y w h X Y : Int} (hw : 2 ≤ w ∧ w ≤ 7) (hh : 2 ≤ h ∧ h ≤ 7) (hr : isRg [(X, Y), (x + 2 * w, y), (x + 2 * w, y + h), (x + w, y + h), (x + w, y + 2 * h), (x, y + 2 * h)] = true) : twA [(X, Y), (x + 2 * w, y), (x + 2 * w, y + h), (x + w, y + h), (x + w, y + 2 * h), (x, y + 2 * h)] ≠ 0 := by
  refine twA_nz hr (z := 6 * (w * h) - 2 * (w * (Y - y)) - 2 * (h * (X - x))) (by simp [rgS, jts, arS]; grind) fun h0 => ?_
  have p1 : howV X Y (x + 2 * w) y (x + w) (y + 2 * h) x (y + 2 * h) = 0 := rg_apart hr (i := 0) (k := 4) (u := (X, Y, x + 2 * w, y)) (v := (x + w, y + 2 * h, x, y + 2 * h)) rfl rfl (by decide) (by rw [rgS_len]; simp [adjC])
  have p2 : howV x (y + 2 * h) X Y (x + w) (y + h) (x + w) (y + 2 * h) = 0 := rg_apart hr (i := 5) (k := 3) (u := (x, y + 2 * h, X, Y)) (v := (x + w, y + h, x + w, y + 2 * h)) rfl rfl (by decide) (by rw [rgS_len]; simp [adjC])
  have p3 : howV x (y + 2 * h) X Y (x + 2 * w) y (x + 2 * w) (y + h) = 0 := rg_apart hr (i := 5) (k := 1) (u := (x, y + 2 * h, X, Y)) (v := (x + 2 * w, y, x + 2 * w, y + h)) rfl rfl (by decide) (by rw [rgS_len]; simp [adjC])
  have s0 : isS X Y (x + 2 * w) y = true := rg_seg hr (i := 0) rfl
  have s1 : isS (x + 2 * w) y (x + 2 * w) (y + h) = true := rg_seg hr (i := 1) rfl
  have s3 : isS (x + w) (y + h) (x + w) (y + 2 * h) = true := rg_seg hr (i := 3) rfl
  have s4 : isS (x + w) (y + 2 * h) x (y + 2 * h) = true := rg_seg hr (i := 4) rfl
  have s5 : isS X Y x (y + 2 * h) = true := by rw [isS_turn]; exact rg_seg hr (i := 5) rfl
  rw [how_turn] at p2 p3
  have key : (X ≤ x + w ∧ y + 2 * h ≤ Y) ∨ ((x + w ≤ X ∧ X ≤ x + 2 * w) ∧ (y + h ≤ Y ∧ Y ≤ y + 2 * h)) ∨ (x + 2 * w ≤ X ∧ Y ≤ y + h) := by
    obtain ⟨hw1, hw2⟩ := hw; obtain ⟨hh1, hh2⟩ := hh
    have e1 : w = 2 ∨ w = 3 ∨ w = 4 ∨ w = 5 ∨ w = 6 ∨ w = 7 := by omega
    have e2 : h = 2 ∨ h = 3 ∨ h = 4 ∨ h = 5 ∨ h = 6 ∨ h = 7 := by omega
    rcases e1 with rfl | rfl | rfl | rfl | rfl | rfl <;> rcases e2 with rfl | rfl | rfl | rfl | rfl | rfl <;> omega
  have e1 : w = 2 ∨ w = 3 ∨ w = 4 ∨ w = 5 ∨ w = 6 ∨ w = 7 := by omega
  have e2 : h = 2 ∨ h = 3 ∨ h = 4 ∨ h = 5 ∨ h = 6 ∨ h = 7 := by omega
  clear hr hw hh
  rcases e1 with rfl | rfl | rfl | rfl | rfl | rfl <;> rcases e2 with rfl | rfl | rfl | rfl | rfl | rfl <;>
    (rcases key with ⟨hk1, hk2⟩ | ⟨⟨hk1, hk2⟩, hk3, hk4⟩ | ⟨hk1, hk2⟩
     · exact how_from s0 s4 (by unfold Apart; omega) (by unfold Opp crs; omega) (by unfold Opp crs; omega) p1
     · exact how_from s5 s3 (by unfold Apart; omega) (by unfold Opp crs; omega) (by unfold Opp crs; omega) p2
     · exact how_from s5 s1 (by unfold Apart; omega) (by unfold Opp crs; omega) (by unfold Opp crs; omega) p3)
end Go.Proofs.YtbnjaaegbmhopaaGreatDoor
