/- A ring like those that are drawn has an area. -/
import Derived.Test.YtbnjaaegbmhopaaGreatDoorRing
namespace Go.Proofs.YtbnjaaegbmhopaaGreatDoor
set_option linter.unusedVariables false

theorem crs_cyc (a b c d x y : Int) : crs a b c d x y = crs c d x y a b := by unfold crs; grind
/-- Each one's ends lie on both sides of the other: they meet. -/
theorem how_meet {a b c d p q r s : Int} (hs : isS a b c d = true) (ht : isS p q r s = true) (hx : ¬ Apart a b c d p q r s) (h1 : Opp (crs a b c d p q) (crs a b c d r s)) (h2 : Opp (crs p q r s a b) (crs p q r s c d)) : howV a b c d p q r s ≠ 0 := by
  obtain ⟨g1, g2, g3, g4⟩ := signs hs ht
  obtain ⟨-, -, k1⟩ := isS_at hs
  obtain ⟨-, -, k2⟩ := isS_at ht
  unfold howV
  rw [if_pos ⟨hs, ht⟩, if_neg hx, g1, g2, g3, g4]
  by_cases hf : crs a b c d p q = 0 ∧ crs a b c d r s = 0
  · rw [if_pos ⟨sg_zero.2 hf.1, sg_zero.2 hf.2⟩]; split <;> decide
  · rw [if_neg (fun h => hf ⟨sg_zero.1 h.1, sg_zero.1 h.2⟩)]
    have hu : ¬ (crs p q r s a b = 0 ∧ crs p q r s c d = 0) := fun h => hf (cross_zero k2 h.1 h.2)
    have n1 := (opp_sg hf).1 h1
    have n2 := (opp_sg hu).1 h2
    unfold markV
    rw [if_neg (fun h => h.elim n1 n2)]
    split <;> decide
/-- A segment from P. -/
theorem how_from {X Y c d p q r s : Int} (hs : isS X Y c d = true) (ht : isS p q r s = true) (hx : ¬ Apart X Y c d p q r s) (h1 : Opp (crs c d p q X Y) (crs c d r s X Y)) (h2 : Opp (crs p q r s X Y) (crs p q r s c d)) : howV X Y c d p q r s ≠ 0 :=
  how_meet hs ht hx (by rw [crs_cyc X Y c d p q, crs_cyc X Y c d r s]; exact h1) h2
/-- Two of a ring that are no neighbours. -/
theorem rg_apart {l : List (Int × Int)} (h : isRg l = true) {i k : Nat} {u v : Int × Int × Int × Int} (hu : (rgS l)[i]? = some u) (hv : (rgS l)[k]? = some v) (hn : i ≠ k) (ha : ¬ adjC (rgS l).length i k) : howS u v = 0 := by
  rw [((isRg_iff l).1 h).2.2 i k u v hu hv hn, if_neg ha]
theorem rg_touch {l : List (Int × Int)} (h : isRg l = true) {i k : Nat} {u v : Int × Int × Int × Int} (hu : (rgS l)[i]? = some u) (hv : (rgS l)[k]? = some v) (hn : i ≠ k) (ha : adjC (rgS l).length i k) : howS u v = 1 := by
  rw [((isRg_iff l).1 h).2.2 i k u v hu hv hn, if_pos ha]
theorem rg_seg {l : List (Int × Int)} (h : isRg l = true) {i : Nat} {u : Int × Int × Int × Int} (hu : (rgS l)[i]? = some u) : sOk u = true := ((isRg_iff l).1 h).2.1 u (List.mem_of_getElem? hu)
theorem twA_nz {l : List (Int × Int)} {z : Int} (h : isRg l = true) (hz : ((rgS l).map arS).sum = z) (h0 : z ≠ 0) : twA l ≠ 0 := by
  unfold twA; rw [if_pos h, hz]; exact h0
set_option maxHeartbeats 16000000 in
/-- The square, one corner anywhere. -/
theorem nz_sq {x y w h X Y : Int} (hw : 2 ≤ w ∧ w ≤ 7) (hh : 2 ≤ h ∧ h ≤ 7) (hr : isRg [(X, Y), (x + w, y), (x + w, y + h), (x, y + h)] = true) : twA [(X, Y), (x + w, y), (x + w, y + h), (x, y + h)] ≠ 0 := by
  refine twA_nz hr (z := 2 * (w * h) - w * (Y - y) - h * (X - x)) (by simp [rgS, jts, arS]; grind) fun h0 => ?_
  have p1 : howV X Y (x + w) y (x + w) (y + h) x (y + h) = 0 := rg_apart hr (i := 0) (k := 2) (u := (X, Y, x + w, y)) (v := (x + w, y + h, x, y + h)) rfl rfl (by decide) (by rw [rgS_len]; simp [adjC])
  have p2 : howV x (y + h) X Y (x + w) y (x + w) (y + h) = 0 := rg_apart hr (i := 3) (k := 1) (u := (x, y + h, X, Y)) (v := (x + w, y, x + w, y + h)) rfl rfl (by decide) (by rw [rgS_len]; simp [adjC])
  have s0 : isS X Y (x + w) y = true := rg_seg hr (i := 0) rfl
  have s1 : isS (x + w) y (x + w) (y + h) = true := rg_seg hr (i := 1) rfl
  have s2 : isS (x + w) (y + h) x (y + h) = true := rg_seg hr (i := 2) rfl
  have s3 : isS X Y x (y + h) = true := by rw [isS_turn]; exact rg_seg hr (i := 3) rfl
  rw [how_turn] at p2
  have key : (X ≤ x + w ∧ y + h ≤ Y) ∨ (x + w ≤ X ∧ Y ≤ y + h) := by
    obtain ⟨hw1, hw2⟩ := hw; obtain ⟨hh1, hh2⟩ := hh
    have e1 : w = 2 ∨ w = 3 ∨ w = 4 ∨ w = 5 ∨ w = 6 ∨ w = 7 := by omega
    have e2 : h = 2 ∨ h = 3 ∨ h = 4 ∨ h = 5 ∨ h = 6 ∨ h = 7 := by omega
    rcases e1 with rfl | rfl | rfl | rfl | rfl | rfl <;> rcases e2 with rfl | rfl | rfl | rfl | rfl | rfl <;> omega
  have e1 : w = 2 ∨ w = 3 ∨ w = 4 ∨ w = 5 ∨ w = 6 ∨ w = 7 := by omega
  have e2 : h = 2 ∨ h = 3 ∨ h = 4 ∨ h = 5 ∨ h = 6 ∨ h = 7 := by omega
  clear hr hw hh
  rcases e1 with rfl | rfl | rfl | rfl | rfl | rfl <;> rcases e2 with rfl | rfl | rfl | rfl | rfl | rfl <;>
    (rcases key with ⟨hk1, hk2⟩ | ⟨hk1, hk2⟩
     · exact how_from s0 s2 (by unfold Apart; omega) (by unfold Opp crs; omega) (by unfold Opp crs; omega) p1
     · exact how_from s3 s1 (by unfold Apart; omega) (by unfold Opp crs; omega) (by unfold Opp crs; omega) p2)
end Go.Proofs.YtbnjaaegbmhopaaGreatDoor
