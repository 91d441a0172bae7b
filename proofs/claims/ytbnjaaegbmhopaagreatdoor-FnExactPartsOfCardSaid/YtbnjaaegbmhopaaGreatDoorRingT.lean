/- Rings: a ring's segments meet in turn. -/
import Derived.Test.YtbnjaaegbmhopaaGreatDoorRing
import Derived.Test.YtbnjaaegbmhopaaGreatDoorTurn
import Derived.Test.YtbnjaaegbmhopaaGreatDoorConcat
namespace Go.Proofs.YtbnjaaegbmhopaaGreatDoor
open Go.RowKit
set_option linter.unusedVariables false

theorem howS_ok {u v : Int × Int × Int × Int} (h : howS u v ≠ 0) : sOk u = true ∧ sOk v = true := by
  by_cases hh : isS u.1 u.2.1 u.2.2.1 u.2.2.2 = true ∧ isS v.1 v.2.1 v.2.2.1 v.2.2.2 = true
  · exact hh
  · exact absurd (how_no hh) h
theorem ite_iff {p q : Prop} [Decidable p] [Decidable q] (h : p ↔ q) {a b : Int} : (if p then a else b) = if q then a else b := by
  by_cases hp : p
  · rw [if_pos hp, if_pos (h.1 hp)]
  · rw [if_neg hp, if_neg (fun k => hp (h.2 k))]
theorem turn_cyc {S : List (Int × Int × Int × Int)} : turnV true S = true ↔ CycOk S := by
  unfold turnV
  rw [decide_eq_true_eq]
  constructor
  · intro h
    refine cycOk_of fun i k u v hu hv hk => ?_
    have := h i (List.getElem?_eq_some_iff.1 hu).1 k hk
    rw [prOk_at hv hu, beq_iff_eq, howS_comm] at this
    rw [this]
    unfold wantC
    have e : (k + 1 = i ∨ (true = true ∧ k = 0 ∧ i + 1 = S.length)) ↔ adjC S.length i k := by rw [show (true = true) = True from eq_self true, true_and]; unfold adjC; omega
    exact ite_iff e
  · intro h k hk i hi
    obtain ⟨u, hu⟩ : ∃ u, S[i]? = some u := ⟨_, List.getElem?_eq_getElem (by omega)⟩
    obtain ⟨v, hv⟩ : ∃ v, S[k]? = some v := ⟨_, List.getElem?_eq_getElem hk⟩
    rw [prOk_at hu hv, beq_iff_eq, h i k u v hu hv (by omega)]
    unfold wantC
    have e : adjC S.length i k ↔ (i + 1 = k ∨ (true = true ∧ i = 0 ∧ k + 1 = S.length)) := by rw [show (true = true) = True from eq_self true, true_and]; unfold adjC; omega
    exact ite_iff e
/-- It need not be asked whether each is valid. -/
theorem isRg_turn (l : List (Int × Int)) : isRg l = (inB l.length 3 10 && turnV true (rgS l)) := by
  rw [Bool.eq_iff_iff, isRg_iff, Bool.and_eq_true, turn_cyc]
  have hn := rgS_len l
  constructor
  · rintro ⟨h1, -, h3⟩
    exact ⟨by simp only [inB, decide_eq_true_eq]; omega, h3⟩
  · rintro ⟨h1, h3⟩
    have hl : 3 ≤ l.length ∧ l.length ≤ 10 := by simp only [inB, decide_eq_true_eq] at h1; omega
    refine ⟨hl, fun s hs => ?_, h3⟩
    obtain ⟨i, hi⟩ := List.getElem?_of_mem hs
    have hil := (List.getElem?_eq_some_iff.1 hi).1
    by_cases h0 : i = 0
    · obtain ⟨v, hv⟩ : ∃ v, (rgS l)[1]? = some v := ⟨_, List.getElem?_eq_getElem (by omega)⟩
      have := h3 i 1 s v hi hv (by omega)
      rw [if_pos (by unfold adjC; omega)] at this
      exact (howS_ok (by rw [this]; decide)).1
    · obtain ⟨v, hv⟩ : ∃ v, (rgS l)[i - 1]? = some v := ⟨_, List.getElem?_eq_getElem (by omega)⟩
      have := h3 i (i - 1) s v hi hv (by omega)
      rw [if_pos (by unfold adjC; omega)] at this
      exact (howS_ok (by rw [this]; decide)).1
theorem rotV_zero (l : List (Int × Int)) : rotV l 0 = l := by
  unfold rotV; split
  · simp
  · rfl
end Go.Proofs.YtbnjaaegbmhopaaGreatDoor
