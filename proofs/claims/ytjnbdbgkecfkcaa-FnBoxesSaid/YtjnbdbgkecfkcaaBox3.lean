/- Boxes: JoinBoxes of the model; what the law says, by values. -/
import Derived.Test.YtjnbdbgkecfkcaaBox2
import Derived.Test.YtjnbdbgkecfkcaaBoxW
namespace Go.Proofs.Ytjnbdbgkecfkcaa
open Go.ChangeShapes Go.WideShapes Go.ChangeAt Go.RowKit
set_option linter.unusedVariables false

/-! ### What the law says -/
theorem mt_comm (a b c d p q r s : Int) : mtB p q r s a b c d = mtB a b c d p q r s := by
  rw [Bool.eq_iff_iff]; simp only [mtB, Bool.and_eq_true, decide_eq_true_eq]; constructor <;> (rintro ⟨h1, h2, h3, h4, h5, h6⟩; exact ⟨h2, h1, h4, h3, h6, h5⟩)
theorem ov_comm (a b c d p q r s : Int) : ovB p q r s a b c d = ovB a b c d p q r s := by
  rw [Bool.eq_iff_iff]; simp only [ovB, Bool.and_eq_true, decide_eq_true_eq]; constructor <;> (rintro ⟨h1, h2, h3, h4⟩; exact ⟨h2, h1, by omega, by omega⟩)
theorem ov_mt {a b c d p q r s : Int} (h : ovB a b c d p q r s = true) : mtB a b c d p q r s = true := by
  simp only [ovB, mtB, Bool.and_eq_true, decide_eq_true_eq] at h ⊢
  obtain ⟨h1, h2, h3, h4⟩ := h
  exact ⟨h1, h2, by omega, by omega, by omega, by omega⟩
theorem bxF_low (l : List (Int × Int)) : ∀ r : Int × Int × Int × Int, ((l.foldl bxF r).1 ≤ r.1 ∧ (l.foldl bxF r).2.1 ≤ r.2.1 ∧ r.2.2.1 ≤ (l.foldl bxF r).2.2.1 ∧ r.2.2.2 ≤ (l.foldl bxF r).2.2.2) ∧ ∀ p ∈ l, ((l.foldl bxF r).1 ≤ p.1 ∧ (l.foldl bxF r).2.1 ≤ p.2 ∧ p.1 ≤ (l.foldl bxF r).2.2.1 ∧ p.2 ≤ (l.foldl bxF r).2.2.2) := by
  induction l with
  | nil => intro r; exact ⟨⟨Int.le_refl _, Int.le_refl _, Int.le_refl _, Int.le_refl _⟩, fun p hp => by cases hp⟩
  | cons q t ih =>
    intro r
    obtain ⟨⟨h1, h2, h3, h4⟩, h5⟩ := ih (bxF r q)
    have e : (q :: t).foldl bxF r = t.foldl bxF (bxF r q) := rfl
    rw [e]
    simp only [bxF] at h1 h2 h3 h4
    refine ⟨⟨by simp only [bxF] at *; omega, by simp only [bxF] at *; omega, by simp only [bxF] at *; omega, by simp only [bxF] at *; omega⟩, fun p hp => ?_⟩
    rcases List.mem_cons.1 hp with rfl | hp
    · exact ⟨by simp only [bxF] at *; omega, by simp only [bxF] at *; omega, by simp only [bxF] at *; omega, by simp only [bxF] at *; omega⟩
    · exact h5 p hp
theorem bxF_rng (l : List (Int × Int)) (hl : ∀ p ∈ l, isP p.1 p.2 = true) : ∀ r : Int × Int × Int × Int, (0 ≤ r.1 ∧ 0 ≤ r.2.1 ∧ r.2.2.1 ≤ 200 ∧ r.2.2.2 ≤ 200) → (0 ≤ (l.foldl bxF r).1 ∧ 0 ≤ (l.foldl bxF r).2.1 ∧ (l.foldl bxF r).2.2.1 ≤ 200 ∧ (l.foldl bxF r).2.2.2 ≤ 200) := by
  induction l with
  | nil => exact fun r h => h
  | cons q t ih =>
    intro r h
    have hq := isP_bd (hl q List.mem_cons_self)
    exact ih (fun p hp => hl p (List.mem_cons_of_mem _ hp)) (bxF r q) (by simp only [bxF]; omega)
/-- Every point of the list is in its box. -/
theorem boxOf_in {l : List (Int × Int)} {r : Int × Int × Int × Int} (h : boxOfV l = (r, true)) : ∀ p ∈ l, inBx r.1 r.2.1 r.2.2.1 r.2.2.2 p.1 p.2 = true := by
  cases l with
  | nil => simp [boxOfV] at h
  | cons q t =>
    replace h : (if ((q :: t).all fun q => isP q.1 q.2) = true then ((q :: t).foldl bxF (q.1, q.2, q.1, q.2), true) else ((0, 0, 0, 0), false)) = (r, true) := h
    by_cases hall : ((q :: t).all fun q => isP q.1 q.2) = true
    · rw [if_pos hall] at h
      have hall' : ∀ p ∈ q :: t, isP p.1 p.2 = true := fun p hp => List.all_eq_true.1 hall p hp
      obtain rfl : (q :: t).foldl bxF (q.1, q.2, q.1, q.2) = r := (Prod.mk.injEq _ _ _ _ ▸ h).1
      have hq := isP_bd (hall' q List.mem_cons_self)
      obtain ⟨⟨h1, h2, h3, h4⟩, h5⟩ := bxF_low (q :: t) (q.1, q.2, q.1, q.2)
      obtain ⟨g1, g2, g3, g4⟩ := bxF_rng (q :: t) hall' (q.1, q.2, q.1, q.2) ⟨hq.1, hq.2.2.1, hq.2.1, hq.2.2.2⟩
      intro p hp
      obtain ⟨i1, i2, i3, i4⟩ := h5 p hp
      generalize (q :: t).foldl bxF (q.1, q.2, q.1, q.2) = z at *
      obtain ⟨z0, z1, z2, z3⟩ := z
      dsimp only at *
      unfold inBx
      rw [isBx_yes (isP_of g1 (by omega) g2 (by omega)) (isP_of (by omega) g3 (by omega) g4) (by omega) (by omega), inB_yes i1 i3, inB_yes i2 i4]
      rfl
    · rw [if_neg hall] at h; cases h
theorem join_in {a b c d p q r s : Int} {z : Int × Int × Int × Int} (h : joinV a b c d p q r s = (z, true)) : ∀ t ∈ [(a, b), (c, d), (p, q), (r, s)], inBx z.1 z.2.1 z.2.2.1 z.2.2.2 t.1 t.2 = true := by
  unfold joinV at h
  split at h
  · exact boxOf_in h
  · cases h
theorem grow_in {a b c d n : Int} {z : Int × Int × Int × Int} (h : growV a b c d n = (z, true)) : isBx z.1 z.2.1 z.2.2.1 z.2.2.2 = true ∧ inBx z.1 z.2.1 z.2.2.1 z.2.2.2 a b = true ∧ inBx z.1 z.2.1 z.2.2.1 z.2.2.2 c d = true := by
  unfold growV at h
  split at h
  · next hh =>
    rw [Bool.and_eq_true] at hh
    have h1 := isBx_at hh.1
    have h2 : 0 ≤ n ∧ n ≤ 200 := by simpa [inB] using hh.2
    obtain rfl := (Prod.mk.injEq _ _ _ _ ▸ h).1
    dsimp only
    have hb : isBx (max 0 (a - n)) (max 0 (b - n)) (min 200 (c + n)) (min 200 (d + n)) = true := isBx_yes (isP_of (by omega) (by omega) (by omega) (by omega)) (isP_of (by omega) (by omega) (by omega) (by omega)) (by omega) (by omega)
    refine ⟨hb, ?_, ?_⟩
    · unfold inBx; rw [hb, inB_yes (by omega) (by omega), inB_yes (by omega) (by omega)]; rfl
    · unfold inBx; rw [hb, inB_yes (by omega) (by omega), inB_yes (by omega) (by omega)]; rfl
  · cases h
end Go.Proofs.Ytjnbdbgkecfkcaa
