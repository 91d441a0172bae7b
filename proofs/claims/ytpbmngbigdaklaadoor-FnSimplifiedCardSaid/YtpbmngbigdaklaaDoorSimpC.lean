/- Simpler lines: how great the fractions of the search are (values). -/
import Derived.Test.YtpbmngbigdaklaaDoorSimpS
namespace Go.Proofs.YtpbmngbigdaklaaDoor
set_option linter.unusedVariables false

/-- All of them are points of the map. -/
def AllPt (l : List (Int × Int)) : Prop := ∀ j, j < l.length → isP (ptA l j).1 (ptA l j).2 = true
theorem bestS_yes {l : List (Int × Int)} {n : Int} {i k t : Nat} (h : nearD (farJ l i k (i + 1 + t)) n = false ∧ ((bestS l n i k t).1 < 0 ∨ (bestS l n i k t).2.1 * (farJ l i k (i + 1 + t)).2 < (farJ l i k (i + 1 + t)).1 * (bestS l n i k t).2.2)) :
    bestS l n i k (t + 1) = (((i + 1 + t : Nat) : Int), (farJ l i k (i + 1 + t)).1, (farJ l i k (i + 1 + t)).2) := by rw [bestS, if_pos h]
theorem bestS_no {l : List (Int × Int)} {n : Int} {i k t : Nat} (h : ¬ (nearD (farJ l i k (i + 1 + t)) n = false ∧ ((bestS l n i k t).1 < 0 ∨ (bestS l n i k t).2.1 * (farJ l i k (i + 1 + t)).2 < (farJ l i k (i + 1 + t)).1 * (bestS l n i k t).2.2))) :
    bestS l n i k (t + 1) = bestS l n i k t := by rw [bestS, if_neg h]
theorem bestS_bd {l : List (Int × Int)} (hp : AllPt l) {n : Int} {i k : Nat} (hi : i < l.length) (hk : k < l.length) : ∀ t, i + t < l.length → (0 ≤ (bestS l n i k t).2.1 ∧ (bestS l n i k t).2.1 ≤ 6400000000) ∧ (1 ≤ (bestS l n i k t).2.2 ∧ (bestS l n i k t).2.2 ≤ 80000)
  | 0, _ => by simp only [bestS]; omega
  | t + 1, ht => by
    have h1 := bestS_bd hp (n := n) hi hk t (by omega)
    have h2 := far_bd (isP_bd (hp i hi)) (isP_bd (hp k hk)) (isP_bd (hp (i + 1 + t) (by omega)))
    by_cases h : (nearD (farJ l i k (i + 1 + t)) n = false ∧ ((bestS l n i k t).1 < 0 ∨ (bestS l n i k t).2.1 * (farJ l i k (i + 1 + t)).2 < (farJ l i k (i + 1 + t)).1 * (bestS l n i k t).2.2))
    · rw [bestS_yes h]; exact h2
    · rw [bestS_no h]; exact h1
theorem mul_le2 {u v a b : Int} (h : 0 ≤ u ∧ u ≤ a) (h' : 0 ≤ v ∧ v ≤ b) : 0 ≤ u * v ∧ u * v ≤ a * b := ⟨Int.mul_nonneg h.1 h'.1, Int.mul_le_mul h.2 h'.2 h'.1 (by omega)⟩
end Go.Proofs.YtpbmngbigdaklaaDoor
