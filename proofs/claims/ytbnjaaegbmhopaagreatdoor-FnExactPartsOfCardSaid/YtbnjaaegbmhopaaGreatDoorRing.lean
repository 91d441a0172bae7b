/- Rings: what the functions of chapter 7 give, by values; turned and rotated. -/
import Derived.Test.YtbnjaaegbmhopaaGreatDoorLine
namespace Go.Proofs.YtbnjaaegbmhopaaGreatDoor
open Go.RowKit
set_option linter.unusedVariables false

/-- The segments of a closed list of points: from each point to the next one, from the last one to the first one. -/
def rgS (l : List (Int × Int)) : List (Int × Int × Int × Int) := jts (l ++ l.take 1)
theorem rgS_len (l : List (Int × Int)) : (rgS l).length = l.length := by
  rw [rgS, jts_len, List.length_append, List.length_take]
  cases l with
  | nil => rfl
  | cons a t => simp
/-- The i-th one. -/
theorem rgS_get {l : List (Int × Int)} {i : Nat} {a b c d : Int} (h : l[i]? = some (a, b)) (h' : l[(i + 1) % l.length]? = some (c, d)) : (rgS l)[i]? = some (a, b, c, d) := by
  have hi := (List.getElem?_eq_some_iff.1 h).1
  refine jts_get (by rw [List.getElem?_append_left hi]; exact h) ?_
  by_cases hl : i + 1 < l.length
  · rw [Nat.mod_eq_of_lt hl] at h'
    rw [List.getElem?_append_left hl]; exact h'
  · have e : i + 1 = l.length := by omega
    rw [e, Nat.mod_self] at h'
    rw [e, List.getElem?_append_right (Nat.le_refl _), Nat.sub_self, List.getElem?_take]
    simpa using h'
/-- Neighbours on a ring of n. -/
def adjC (n i k : Nat) : Prop := i + 1 = k ∨ k + 1 = i ∨ (i = 0 ∧ k + 1 = n) ∨ (k = 0 ∧ i + 1 = n)
instance (n i k : Nat) : Decidable (adjC n i k) := by unfold adjC; infer_instance
theorem adjC_comm (n i k : Nat) : adjC n k i ↔ adjC n i k := by unfold adjC; omega
/-- Neighbours touch, no others meet. -/
def CycOk (s : List (Int × Int × Int × Int)) : Prop := ∀ (i k : Nat) u v, s[i]? = some u → s[k]? = some v → i ≠ k → howS u v = if adjC s.length i k then 1 else 0
/-- It is enough to look at each pair once. -/
theorem cycOk_of {s : List (Int × Int × Int × Int)} (h : ∀ (i k : Nat) u v, s[i]? = some u → s[k]? = some v → k < i → howS u v = if adjC s.length i k then 1 else 0) : CycOk s := fun i k u v hu hv hn => by
  by_cases hk : k < i
  · exact h i k u v hu hv hk
  · rw [← howS_comm]
    rw [h k i v u hv hu (by omega)]
    simp only [adjC_comm]
def rgOk (s : List (Int × Int × Int × Int)) (i k : Nat) : Bool := match s[i]?, s[k]? with
  | some u, some v => howS u v == (if adjC s.length i k then 1 else 0)
  | _, _ => true
theorem rgOk_at {s : List (Int × Int × Int × Int)} {i k : Nat} {u v : Int × Int × Int × Int} (h : s[i]? = some u) (h' : s[k]? = some v) : rgOk s i k = (howS u v == (if adjC s.length i k then 1 else 0)) := by simp only [rgOk, h, h']
/-- Is it a ring? -/
def isRg (l : List (Int × Int)) : Bool := inB l.length 3 10 && ((rgS l).all sOk && decide (∀ i, i < (rgS l).length → ∀ k, k < i → rgOk (rgS l) i k = true))
theorem isRg_iff (l : List (Int × Int)) : isRg l = true ↔ (3 ≤ l.length ∧ l.length ≤ 10) ∧ (∀ s ∈ rgS l, sOk s = true) ∧ CycOk (rgS l) := by
  unfold isRg
  simp only [Bool.and_eq_true, List.all_eq_true, decide_eq_true_eq, inB]
  refine and_congr (by omega) (and_congr_right fun _ => ?_)
  constructor
  · intro h
    refine cycOk_of fun i k u v hu hv hk => ?_
    have := h i (List.getElem?_eq_some_iff.1 hu).1 k hk
    rw [rgOk_at hu hv, beq_iff_eq] at this
    exact this
  · intro h i hi k hk
    obtain ⟨u, hu⟩ : ∃ u, (rgS l)[i]? = some u := ⟨_, List.getElem?_eq_getElem hi⟩
    obtain ⟨v, hv⟩ : ∃ v, (rgS l)[k]? = some v := ⟨_, List.getElem?_eq_getElem (by omega)⟩
    rw [rgOk_at hu hv, beq_iff_eq]
    exact h i k u v hu hv (by omega)
/-- The area's part of one segment. -/
def arS (s : Int × Int × Int × Int) : Int := s.1 * s.2.2.2 - s.2.1 * s.2.2.1
def twA (l : List (Int × Int)) : Int := if isRg l = true then ((rgS l).map arS).sum else 0
theorem arS_tr (s : Int × Int × Int × Int) : arS (trS s) = -arS s := by
  obtain ⟨a, b, c, d⟩ := s
  show c * b - d * a = -(a * d - b * c)
  rw [Int.mul_comm c b, Int.mul_comm d a]; omega
/-- Does the segment cross the ray from p? -/
def crC (p : Int × Int) (s : Int × Int × Int × Int) : Bool :=
  (decide (s.2.1 > p.2) != decide (s.2.2.2 > p.2)) && ((decide (s.2.2.2 > s.2.1) && decide (crs s.1 s.2.1 s.2.2.1 s.2.2.2 p.1 p.2 > 0)) || (decide (s.2.2.2 < s.2.1) && decide (crs s.1 s.2.1 s.2.2.1 s.2.2.2 p.1 p.2 < 0)))
def onS (p : Int × Int) (s : Int × Int × Int × Int) : Bool := onV s.1 s.2.1 s.2.2.1 s.2.2.2 p.1 p.2
/-- On one of its segments, or inside: an odd number of them crosses the ray. -/
def inV (l : List (Int × Int)) (p : Int × Int) : Bool := (isRg l && isP p.1 p.2) && ((rgS l).any (onS p) || decide ((rgS l).countP (crC p) % 2 = 1))
theorem crs_flip (a b c d x y : Int) : crs c d a b x y = -crs a b c d x y := by
  unfold crs
  have e1 : (a - c) * (y - d) = -((c - a) * (y - b) + (c - a) * (b - d)) := by rw [← Int.mul_add, show y - b + (b - d) = y - d by omega, ← Int.neg_mul, show -(c - a) = a - c by omega]
  have e2 : (b - d) * (x - c) = -((d - b) * (x - a) + (d - b) * (a - c)) := by rw [← Int.mul_add, show x - a + (a - c) = x - c by omega, ← Int.neg_mul, show -(d - b) = b - d by omega]
  have e3 : (c - a) * (b - d) = (d - b) * (a - c) := by rw [show c - a = -(a - c) by omega, show d - b = -(b - d) by omega, Int.neg_mul, Int.neg_mul, Int.mul_comm]
  rw [e1, e2, e3]; omega
theorem crC_tr (p : Int × Int) (s : Int × Int × Int × Int) : crC p (trS s) = crC p s := by
  obtain ⟨a, b, c, d⟩ := s
  unfold crC trS
  dsimp only
  rw [crs_flip a b c d]
  have e1 : decide (-crs a b c d p.1 p.2 > 0) = decide (crs a b c d p.1 p.2 < 0) := decide_eq_decide.2 (by omega)
  have e2 : decide (-crs a b c d p.1 p.2 < 0) = decide (crs a b c d p.1 p.2 > 0) := decide_eq_decide.2 (by omega)
  have e3 : decide (b > d) = decide (d < b) := rfl
  have e4 : decide (b < d) = decide (d > b) := rfl
  have e5 : (decide (d > p.2) != decide (b > p.2)) = (decide (b > p.2) != decide (d > p.2)) := by cases decide (d > p.2) <;> cases decide (b > p.2) <;> rfl
  rw [e1, e2, e3, e4, e5]
  congr 1
  exact Bool.or_comm _ _
theorem onS_tr (p : Int × Int) (s : Int × Int × Int × Int) : onS p (trS s) = onS p s := onV_turn _ _ _ _ _ _
/-! ### Turned round -/
def trn : List (Int × Int) → List (Int × Int)
  | [] => []
  | a :: t => a :: t.reverse
theorem trn_len (l : List (Int × Int)) : (trn l).length = l.length := by cases l <;> simp [trn]
theorem rgS_trn (l : List (Int × Int)) : rgS (trn l) = (rgS l).reverse.map trS := by
  cases l with
  | nil => rfl
  | cons a t =>
    show jts (a :: t.reverse ++ [a]) = (jts (a :: t ++ [a])).reverse.map trS
    rw [← jts_rev]
    simp
theorem cycOk_rev {s : List (Int × Int × Int × Int)} (h : CycOk s) : CycOk (s.reverse.map trS) := fun i k u v hu hv hn => by
  have hl : (s.reverse.map trS).length = s.length := by simp
  have hi := (List.getElem?_eq_some_iff.1 hu).1
  have hk := (List.getElem?_eq_some_iff.1 hv).1
  rw [hl] at hi hk ⊢
  rw [List.getElem?_map, List.getElem?_reverse hi, Option.map_eq_some_iff] at hu
  rw [List.getElem?_map, List.getElem?_reverse hk, Option.map_eq_some_iff] at hv
  obtain ⟨u', hu', rfl⟩ := hu
  obtain ⟨v', hv', rfl⟩ := hv
  rw [howS_tr, howS_tr2, h _ _ _ _ hu' hv' (by omega)]
  have e : adjC s.length (s.length - 1 - i) (s.length - 1 - k) ↔ adjC s.length i k := by unfold adjC; omega
  simp only [e]
theorem map_tr_rev (s : List (Int × Int × Int × Int)) : ((s.reverse.map trS).reverse.map trS) = s := by
  rw [List.map_reverse, List.map_map, List.map_reverse, List.reverse_reverse]
  exact List.map_id'' (fun x => rfl) s
theorem isRg_trn (l : List (Int × Int)) : isRg (trn l) = isRg l := by
  rw [Bool.eq_iff_iff, isRg_iff, isRg_iff, trn_len, rgS_trn]
  refine and_congr_right fun _ => and_congr ?_ ?_
  · constructor
    · intro h s hs
      have := h (trS s) (List.mem_map.2 ⟨s, List.mem_reverse.2 hs, rfl⟩)
      rwa [sOk_tr] at this
    · intro h s hs
      obtain ⟨t, ht, rfl⟩ := List.mem_map.1 hs
      rw [sOk_tr]; exact h t (List.mem_reverse.1 ht)
  · constructor
    · intro h
      have := cycOk_rev h
      rwa [map_tr_rev] at this
    · exact cycOk_rev
theorem sum_map_neg {α : Type} (f : α → Int) (l : List α) : (l.map fun x => -f x).sum = -(l.map f).sum := by
  induction l with
  | nil => rfl
  | cons a t ih => simp only [List.map_cons, List.sum_cons, ih]; omega
theorem twA_trn (l : List (Int × Int)) : twA (trn l) = -twA l := by
  unfold twA
  rw [isRg_trn, rgS_trn, List.map_map]
  split
  · rw [← sum_map_neg, List.map_reverse, List.sum_reverse]
    congr 1
    exact List.map_congr_left fun s _ => arS_tr s
  · rfl
theorem inV_trn (l : List (Int × Int)) (p : Int × Int) : inV (trn l) p = inV l p := by
  unfold inV
  rw [isRg_trn, rgS_trn, List.any_map, List.any_reverse, List.countP_map, List.countP_reverse]
  have e1 : (onS p ∘ trS) = onS p := funext fun s => onS_tr p s
  have e2 : (crC p ∘ trS) = crC p := funext fun s => crC_tr p s
  rw [e1, e2]
/-! ### Rotated -/
theorem jts_app (u v : List (Int × Int)) (a : Int × Int) : jts (u ++ a :: v) = jts (u ++ [a]) ++ jts (a :: v) := by
  induction u with
  | nil => rfl
  | cons p t ih =>
    cases t with
    | nil => rfl
    | cons q r =>
      show (p.1, p.2, q.1, q.2) :: jts (q :: r ++ a :: v) = (p.1, p.2, q.1, q.2) :: jts (q :: r ++ [a]) ++ jts (a :: v)
      rw [ih]; rfl
/-- Rotated by one. -/
def rot1 {α : Type} : List α → List α
  | [] => []
  | a :: t => t ++ [a]
theorem rgS_rot1 (l : List (Int × Int)) : rgS (rot1 l) = rot1 (rgS l) := by
  match l with
  | [] => rfl
  | [a] => rfl
  | a :: b :: t =>
    show jts (b :: t ++ [a] ++ [b]) = rot1 (jts (a :: b :: t ++ [a]))
    have e1 : jts (a :: b :: t ++ [a]) = (a.1, a.2, b.1, b.2) :: jts (b :: t ++ [a]) := rfl
    have e2 : b :: t ++ [a] ++ [b] = (b :: t) ++ a :: [b] := by simp
    rw [e1, e2, jts_app]; rfl
theorem rot1_len {α : Type} (l : List α) : (rot1 l).length = l.length := by cases l <;> simp [rot1]
theorem rot1_get {α : Type} {l : List α} {j : Nat} (h : j < l.length) : (rot1 l)[j]? = if j + 1 < l.length then l[j + 1]? else l[0]? := by
  cases l with
  | nil => cases h
  | cons a t =>
    simp only [rot1, List.length_cons] at h ⊢
    split
    · rw [List.getElem?_append_left (by omega)]; simp
    · rw [List.getElem?_append_right (by omega), show j - t.length = 0 by omega]; simp
theorem cycOk_rot1 {s : List (Int × Int × Int × Int)} (h : CycOk s) : CycOk (rot1 s) := fun i k u v hu hv hn => by
  have hi := (List.getElem?_eq_some_iff.1 hu).1
  have hk := (List.getElem?_eq_some_iff.1 hv).1
  rw [rot1_len] at hi hk ⊢
  rw [rot1_get hi] at hu
  rw [rot1_get hk] at hv
  have e : ∀ (i' k' : Nat), (i' = if i + 1 < s.length then i + 1 else 0) → (k' = if k + 1 < s.length then k + 1 else 0) → (adjC s.length i' k' ↔ adjC s.length i k) := fun i' k' hi' hk' => by
    unfold adjC; split at hi' <;> split at hk' <;> omega
  split at hu <;> split at hv
  · rw [h _ _ _ _ hu hv (by omega)]; simp only [e (i + 1) (k + 1) (by rw [if_pos (by assumption)]) (by rw [if_pos (by assumption)])]
  · rw [h _ _ _ _ hu hv (by omega)]; simp only [e (i + 1) 0 (by rw [if_pos (by assumption)]) (by rw [if_neg (by assumption)])]
  · rw [h _ _ _ _ hu hv (by omega)]; simp only [e 0 (k + 1) (by rw [if_neg (by assumption)]) (by rw [if_pos (by assumption)])]
  · omega
theorem mem_rot1 {α : Type} {l : List α} {x : α} : x ∈ rot1 l ↔ x ∈ l := by
  cases l with
  | nil => rfl
  | cons a t => simp [rot1, or_comm]
end Go.Proofs.YtbnjaaegbmhopaaGreatDoor
