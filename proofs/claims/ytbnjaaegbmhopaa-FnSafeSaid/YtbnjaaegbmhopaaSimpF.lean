/- Simpler lines: what they keep and how near they stay (values). -/
import Derived.Test.YtbnjaaegbmhopaaSimpV
namespace Go.Proofs.Ytbnjaaegbmhopaa
set_option linter.unusedVariables false

/-- How far a list has been met in another one, eaten greedily. -/
def eatN (a : List (Int × Int)) : Nat → List (Int × Int) → Nat
  | i, [] => i
  | i, q :: t => eatN a (if a[i]? = some q then i + 1 else i) t
def partV (a b : List (Int × Int)) : Bool := decide (eatN a 0 b = a.length)
theorem eat_app (a : List (Int × Int)) : ∀ (b c : List (Int × Int)) (i : Nat), eatN a i (b ++ c) = eatN a (eatN a i b) c
  | [], c, i => rfl
  | q :: t, c, i => eat_app a t c _
theorem eat_step {a b : List (Int × Int)} {k : Nat} {q : Int × Int} (h : b[k]? = some q) : eatN a 0 (b.take (k + 1)) = if a[eatN a 0 (b.take k)]? = some q then eatN a 0 (b.take k) + 1 else eatN a 0 (b.take k) := by
  rw [List.take_add_one, h, Option.toList_some, eat_app]; rfl
theorem eat_le (a : List (Int × Int)) : ∀ (b : List (Int × Int)) (i : Nat), i ≤ a.length → eatN a i b ≤ a.length
  | [], i, h => h
  | q :: t, i, h => by
    unfold eatN
    split
    · next he =>
      have := (List.getElem?_eq_some_iff.1 he).1
      exact eat_le a t _ (by omega)
    · exact eat_le a t _ h
theorem eat_all {a : List (Int × Int)} : ∀ {b : List (Int × Int)} {i : Nat}, i ≤ a.length → (a.drop i).Sublist b → eatN a i b = a.length
  | [], i, hi, h => by
    have h0 : a.drop i = [] := List.sublist_nil.1 h
    have := List.drop_eq_nil_iff.1 h0
    unfold eatN; omega
  | q :: t, i, hi, h => by
    unfold eatN
    split
    · next he =>
      obtain ⟨hlt, hq⟩ := List.getElem?_eq_some_iff.1 he
      refine eat_all (by omega) ?_
      rw [List.drop_eq_getElem_cons hlt, hq] at h
      exact List.cons_sublist_cons.1 h
    · next he =>
      refine eat_all hi ?_
      by_cases hlt : i < a.length
      · rw [List.drop_eq_getElem_cons hlt] at h ⊢
        cases h with
        | cons _ h => exact h
        | cons_cons _ h => exact absurd (List.getElem?_eq_getElem hlt) he
      · rw [List.drop_of_length_le (by omega)]; exact List.nil_sublist _
theorem part_sub {a b : List (Int × Int)} (h : a.Sublist b) : partV a b = true := by
  unfold partV
  exact decide_eq_true (eat_all (Nat.zero_le _) (by simpa using h))
/-- Is every point near? -/
def nearAny (S : List (Int × Int × Int × Int)) (p : Int × Int) (n : Int) : Bool := S.any fun s => nearV s.1 s.2.1 s.2.2.1 s.2.2.2 p.1 p.2 n
def faithV (l k : List (Int × Int)) (n : Int) : Bool := isLn l && (isLn k && (decide (ptA l 0 = ptA k 0) && (decide (ptA l (l.length - 1) = ptA k (k.length - 1)) && l.all fun p => nearAny (sgV k) p n)))
theorem idx_at {f : Nat → Bool} {u : Nat} (hu : f u = true) : ∀ {m : Nat}, u < m → (idxTo f m)[(idxTo f u).length]? = some u
  | 0, h => by omega
  | m + 1, h => by
    rw [idx_succ]
    by_cases e : u = m
    · subst e
      rw [if_pos hu]; simp
    · have h1 := idx_at hu (m := m) (by omega)
      rw [List.getElem?_append_left (List.getElem?_eq_some_iff.1 h1).1]
      exact h1
theorem idx_gap {f : Nat → Bool} {u : Nat} : ∀ {v : Nat}, u < v → (∀ j, u < j → j < v → f j = false) → (idxTo f v).length = (idxTo f (u + 1)).length
  | 0, h, _ => by omega
  | v + 1, h, hn => by
    by_cases e : u = v
    · subst e; rfl
    · rw [idx_succ, hn v (by omega) (by omega)]
      simp only [Bool.false_eq_true, if_false, List.append_nil]
      exact idx_gap (by omega) fun j h1 h2 => hn j h1 (by omega)
theorem idx_two {f : Nat → Bool} {u v m : Nat} (hu : f u = true) (hv : f v = true) (huv : u < v) (hvm : v < m) (hn : ∀ j, u < j → j < v → f j = false) :
    (idxTo f m)[(idxTo f u).length]? = some u ∧ (idxTo f m)[(idxTo f u).length + 1]? = some v := by
  refine ⟨idx_at hu (by omega), ?_⟩
  have h1 := idx_at hv hvm
  rwa [idx_gap huv hn, idx_succ, if_pos hu, List.length_append] at h1
theorem find_down {f : Nat → Bool} (h0 : f 0 = true) : ∀ j, ∃ u, u ≤ j ∧ f u = true ∧ ∀ i, u < i → i ≤ j → f i = false
  | 0 => ⟨0, Nat.le_refl _, h0, fun i h1 h2 => by omega⟩
  | j + 1 => by
    cases hj : f (j + 1)
    · obtain ⟨u, h1, h2, h3⟩ := find_down h0 j
      exact ⟨u, by omega, h2, fun i h4 h5 => by
        by_cases e : i = j + 1
        · rw [e]; exact hj
        · exact h3 i h4 (by omega)⟩
    · exact ⟨j + 1, Nat.le_refl _, hj, fun i h1 h2 => by omega⟩
theorem find_up {f : Nat → Bool} {u : Nat} : ∀ {d : Nat}, f (u + 1 + d) = true → ∃ v, u < v ∧ v ≤ u + 1 + d ∧ f v = true ∧ ∀ i, u < i → i < v → f i = false
  | 0, h => ⟨u + 1, by omega, by omega, h, fun i h1 h2 => by omega⟩
  | d + 1, h => by
    by_cases hex : ∃ e, e ≤ d ∧ f (u + 1 + e) = true
    · obtain ⟨e, he, hf⟩ := hex
      obtain ⟨v, h1, h2, h3, h4⟩ := find_up (d := e) hf
      exact ⟨v, h1, by omega, h3, h4⟩
    · refine ⟨u + 1 + (d + 1), by omega, Nat.le_refl _, h, fun i h1 h2 => ?_⟩
      cases hi : f i
      · rfl
      · exact absurd ⟨i - (u + 1), by omega, by rw [show u + 1 + (i - (u + 1)) = i by omega]; exact hi⟩ hex
theorem keep_zero (l : List (Int × Int)) (n : Int) : keepB l n 0 = true := keepB_iff.2 (.inl rfl)
theorem keep_last {l : List (Int × Int)} {n : Int} {j : Nat} (h : j + 1 = l.length) : keepB l n j = true := keepB_iff.2 (.inr (.inl h))
theorem keep_mid {l : List (Int × Int)} {n : Int} {j : Nat} (h1 : 0 < j) (h2 : j + 1 < l.length) : keepB l n j = true ↔ Kept l n 0 (l.length - 1) j := by
  rw [keepB_iff]
  constructor
  · rintro (h | h | h)
    · omega
    · omega
    · exact h
  · exact fun h => .inr (.inr h)
theorem sq_nn (x : Int) : 0 ≤ x * x := by rw [← Int.natAbs_mul_self' x]; exact Int.mul_nonneg (Int.natCast_nonneg _) (Int.natCast_nonneg _)
/-- The two kept ones around a place. -/
theorem around {l : List (Int × Int)} {n : Int} (h2 : 2 ≤ l.length) {j : Nat} (hj : j < l.length) :
    ∃ u v, u < v ∧ v < l.length ∧ u ≤ j ∧ j ≤ v ∧ keepB l n u = true ∧ keepB l n v = true ∧ (∀ i, u < i → i < v → keepB l n i = false) := by
  by_cases hl : j + 1 = l.length
  · obtain ⟨u, h1, h3, h4⟩ := find_down (keep_zero l n) (j - 1)
    exact ⟨u, j, by omega, hj, by omega, Nat.le_refl _, h3, keep_last hl, fun i h5 h6 => h4 i h5 (by omega)⟩
  · obtain ⟨u, h1, h3, h4⟩ := find_down (keep_zero l n) j
    obtain ⟨v, h5, h6, h7, h8⟩ := find_up (f := keepB l n) (u := u) (d := l.length - 1 - (u + 1)) (by
      rw [show u + 1 + (l.length - 1 - (u + 1)) = l.length - 1 by omega]
      exact keep_last (by omega))
    refine ⟨u, v, h5, by omega, h1, ?_, h3, h7, h8⟩
    by_cases h9 : j ≤ v
    · exact h9
    · rw [h4 v h5 (by omega)] at h7; cases h7
theorem gap_near {l : List (Int × Int)} {n : Int} (h2 : 2 ≤ l.length) (hn : 0 ≤ n) {u v j : Nat} (huv : u < v) (hv : v < l.length) (h1 : u ≤ j) (h3 : j ≤ v) (ku : keepB l n u = true) (kv : keepB l n v = true) (hg : ∀ i, u < i → i < v → keepB l n i = false) :
    nearD (farJ l u v j) n = true := by
  have hnn : 0 ≤ n * n := Int.mul_nonneg hn hn
  by_cases e1 : j = u
  · subst e1
    unfold farJ farD
    have h0 : atD (ptA l j).1 (ptA l j).2 (ptA l v).1 (ptA l v).2 (ptA l j).1 (ptA l j).2 = 0 := by simp [atD]
    rw [if_pos (by omega)]
    simp [nearD, sqD, hnn]
  by_cases e2 : j = v
  · subst e2
    unfold farJ farD
    have h0 : atD (ptA l u).1 (ptA l u).2 (ptA l j).1 (ptA l j).2 (ptA l j).1 (ptA l j).2 = lngD (ptA l u).1 (ptA l u).2 (ptA l j).1 (ptA l j).2 := rfl
    split
    · next h =>
      have ha : 0 ≤ ((ptA l j).1 - (ptA l u).1) * ((ptA l j).1 - (ptA l u).1) := sq_nn _
      have hb : 0 ≤ ((ptA l j).2 - (ptA l u).2) * ((ptA l j).2 - (ptA l u).2) := sq_nn _
      rw [h0] at h
      unfold lngD at h
      have hc : sqD (ptA l u).1 (ptA l u).2 (ptA l j).1 (ptA l j).2 = ((ptA l j).1 - (ptA l u).1) * ((ptA l j).1 - (ptA l u).1) + ((ptA l j).2 - (ptA l u).2) * ((ptA l j).2 - (ptA l u).2) := by
        unfold sqD
        rw [← Int.neg_sub (ptA l j).1, ← Int.neg_sub (ptA l j).2, Int.neg_mul_neg, Int.neg_mul_neg]
      simp only [nearD, hc, decide_eq_true_eq]
      omega
    · rw [if_pos (by rw [h0]; exact Int.le_refl _)]
      simp [nearD, sqD, hnn]
  · refine bestV_none (gap_none (l.length - 1) 0 (l.length - 1) (by omega) u v ?_ ?_ huv fun i h5 h6 hk => ?_) (by omega) (by omega)
    · by_cases e : u = 0
      · exact .inl e
      · exact .inr ((keep_mid (by omega) (by omega)).1 ku)
    · by_cases e : v + 1 = l.length
      · left; omega
      · exact .inr ((keep_mid (by omega) (by omega)).1 kv)
    · have := (keep_mid (l := l) (n := n) (by omega : 0 < i) (by omega)).2 hk
      rw [hg i h5 h6] at this; cases this
theorem ln_pt {l : List (Int × Int)} (h : isLn l = true) {j : Nat} (hj : j < l.length) : isP (ptA l j).1 (ptA l j).2 = true := by
  obtain ⟨h2, -, ha⟩ := isLn_yes h
  by_cases e : j + 1 < l.length
  · obtain ⟨a, b, c, d, g1, g2, g3⟩ := jts_at e
    have hs := (isS_at (ha _ (List.mem_of_getElem? g3))).1
    rw [ptA_get g1]
    exact isP_of hs.1 hs.2.1 hs.2.2.1 hs.2.2.2
  · obtain ⟨a, b, c, d, g1, g2, g3⟩ := jts_at (l := l) (j := j - 1) (by omega)
    have hs := (isS_at (ha _ (List.mem_of_getElem? g3))).2.1
    rw [show j - 1 + 1 = j by omega] at g2
    rw [ptA_get g2]
    exact isP_of hs.1 hs.2.1 hs.2.2.1 hs.2.2.2
theorem simp_first {l : List (Int × Int)} {n : Int} (h2 : 2 ≤ l.length) : ptA (simpL l n) 0 = ptA l 0 := by
  have h := idx_at (keep_zero l n) (m := l.length) (by omega)
  have h0 : (idxTo (keepB l n) 0).length = 0 := rfl
  rw [h0] at h
  refine ptA_get ?_
  unfold simpL
  rw [List.getElem?_map, h]; rfl
theorem simp_last {l : List (Int × Int)} {n : Int} (h2 : 2 ≤ l.length) : ptA (simpL l n) ((simpL l n).length - 1) = ptA l (l.length - 1) := by
  obtain ⟨m, hm⟩ : ∃ m, l.length = m + 1 := ⟨l.length - 1, by omega⟩
  have hk : keepB l n m = true := keep_last hm.symm
  have h := idx_at hk (m := l.length) (by omega)
  have hlen : (simpL l n).length = (idxTo (keepB l n) m).length + 1 := by
    unfold simpL
    rw [List.length_map, hm, idx_succ, if_pos hk, List.length_append]; rfl
  rw [hlen, hm]
  refine ptA_get ?_
  unfold simpL
  rw [List.getElem?_map, Nat.add_sub_cancel, h]; rfl
/-- A simpler line stays near all points. -/
theorem faith_simp {l : List (Int × Int)} {n : Int} (hl : isLn l = true) (hn : inB n 0 200 = true) (hk : isLn (simpV l n) = true) : faithV l (simpV l n) n = true := by
  have e : simpV l n = simpL l n := by unfold simpV; rw [if_pos ⟨hl, hn⟩]
  rw [e] at hk ⊢
  have h2 := (isLn_yes hl).1
  have hn0 : 0 ≤ n := by simp only [inB, decide_eq_true_eq] at hn; omega
  unfold faithV
  simp only [hl, hk, Bool.true_and, Bool.and_eq_true, decide_eq_true_eq, List.all_eq_true]
  refine ⟨(simp_first h2).symm, (simp_last h2).symm, fun p hp => ?_⟩
  obtain ⟨j, hj⟩ := List.getElem?_of_mem hp
  have hjl := (List.getElem?_eq_some_iff.1 hj).1
  obtain ⟨u, v, huv, hvl, h1, h3, ku, kv, hg⟩ := around (n := n) h2 hjl
  obtain ⟨g1, g2⟩ := idx_two ku kv huv hvl hg
  have k1 : (simpL l n)[(idxTo (keepB l n) u).length]? = some (ptA l u) := by unfold simpL; rw [List.getElem?_map, g1]; rfl
  have k2 : (simpL l n)[(idxTo (keepB l n) u).length + 1]? = some (ptA l v) := by unfold simpL; rw [List.getElem?_map, g2]; rfl
  obtain ⟨a, b, c, d, q1, q2, q3⟩ := jts_at (List.getElem?_eq_some_iff.1 k2).1
  have e1 := Option.some.inj (k1.symm.trans q1)
  have e2 := Option.some.inj (k2.symm.trans q2)
  have hm := List.mem_of_getElem? q3
  have hnear := gap_near h2 hn0 huv hvl h1 h3 ku kv hg
  have hP := ln_pt hl hjl
  rw [ptA_get hj] at hP
  unfold farJ at hnear
  rw [e1, e2, ptA_get hj] at hnear
  unfold nearAny
  rw [List.any_eq_true]
  refine ⟨_, by rw [sgV_yes hk]; exact hm, ?_⟩
  have hS := (isLn_yes hk).2.2 _ hm
  simp only [nearV, Bool.and_eq_true]
  exact ⟨hS, hP, hn, hnear⟩
end Go.Proofs.Ytbnjaaegbmhopaa
