/- Lines: what the functions of chapter 6 give, by values. -/
import Derived.Test.YtbnjaaegbmhopaaGreatDoorSeg
namespace Go.Proofs.YtbnjaaegbmhopaaGreatDoor
open Go.RowKit
set_option linter.unusedVariables false

theorem revInd {α : Type} {P : List α → Prop} (h0 : P []) (h : ∀ s x, P s → P (s ++ [x])) (l : List α) : P l := by
  have key : ∀ m : List α, P m.reverse := by
    intro m
    induction m with
    | nil => exact h0
    | cons x r ih => rw [List.reverse_cons]; exact h _ _ ih
  have := key l.reverse
  rwa [List.reverse_reverse] at this
/-- The segments from each point to the next one. -/
def jts : List (Int × Int) → List (Int × Int × Int × Int)
  | p :: q :: r => (p.1, p.2, q.1, q.2) :: jts (q :: r)
  | _ => []
theorem jts_len (l : List (Int × Int)) : (jts l).length = l.length - 1 := by
  match l with
  | [] => rfl
  | [_] => rfl
  | p :: q :: r => rw [jts, List.length_cons, jts_len (q :: r)]; simp
theorem jts_get {l : List (Int × Int)} {j : Nat} {a b c d : Int} (h : l[j]? = some (a, b)) (h' : l[j + 1]? = some (c, d)) : (jts l)[j]? = some (a, b, c, d) := by
  match l, j, h, h' with
  | [], _, h, _ => simp at h
  | [_], 0, _, h' => simp at h'
  | [_], j + 1, h, _ => simp at h
  | p :: q :: r, 0, h, h' => simp at h h'; subst h; subst h'; rfl
  | p :: q :: r, j + 1, h, h' =>
    rw [jts, List.getElem?_cons_succ]
    exact jts_get (by simpa using h) (by simpa using h')
theorem jts_at {l : List (Int × Int)} {j : Nat} (h : j + 1 < l.length) : ∃ a b c d, l[j]? = some (a, b) ∧ l[j + 1]? = some (c, d) ∧ (jts l)[j]? = some (a, b, c, d) := by
  have h1 : l[j]? = some (l[j]'(by omega)) := List.getElem?_eq_getElem _
  have h2 : l[j + 1]? = some (l[j + 1]'(by omega)) := List.getElem?_eq_getElem _
  exact ⟨_, _, _, _, h1, h2, jts_get h1 h2⟩
theorem jts_inv {l : List (Int × Int)} {j : Nat} {a b c d : Int} (h : (jts l)[j]? = some (a, b, c, d)) : l[j]? = some (a, b) ∧ l[j + 1]? = some (c, d) := by
  have hl := (List.getElem?_eq_some_iff.1 h).1
  rw [jts_len] at hl
  obtain ⟨a', b', c', d', h1, h2, h3⟩ := jts_at (l := l) (j := j) (by omega)
  rw [h] at h3
  simp only [Option.some.injEq, Prod.mk.injEq] at h3
  obtain ⟨rfl, rfl, rfl, rfl⟩ := h3
  exact ⟨h1, h2⟩
/-- Is it a segment? -/
def sOk (s : Int × Int × Int × Int) : Bool := isS s.1 s.2.1 s.2.2.1 s.2.2.2
/-- Is it a line? -/
def isLn (l : List (Int × Int)) : Bool := inB l.length 2 10 && (jts l).all sOk
theorem isLn_yes {l : List (Int × Int)} (h : isLn l = true) : 2 ≤ l.length ∧ l.length ≤ 10 ∧ ∀ s ∈ jts l, sOk s = true := by
  simp only [isLn, inB, Bool.and_eq_true, List.all_eq_true, decide_eq_true_eq] at h
  exact ⟨by omega, by omega, h.2⟩
theorem isLn_of {l : List (Int × Int)} (h : 2 ≤ l.length) (h' : l.length ≤ 10) (ha : ∀ s ∈ jts l, sOk s = true) : isLn l = true := by
  simp only [isLn, inB, Bool.and_eq_true, List.all_eq_true, decide_eq_true_eq]
  exact ⟨by omega, ha⟩
/-- The line, or no points; its segments. -/
def lnV (l : List (Int × Int)) : List (Int × Int) := if isLn l = true then l else []
def sgV (l : List (Int × Int)) : List (Int × Int × Int × Int) := jts (lnV l)
theorem lnV_yes {l : List (Int × Int)} (h : isLn l = true) : lnV l = l := by unfold lnV; rw [if_pos h]
theorem lnV_no {l : List (Int × Int)} (h : isLn l = false) : lnV l = [] := by unfold lnV; rw [h]; rfl
theorem sgV_yes {l : List (Int × Int)} (h : isLn l = true) : sgV l = jts l := by unfold sgV; rw [lnV_yes h]
theorem sgV_no {l : List (Int × Int)} (h : isLn l = false) : sgV l = [] := by unfold sgV; rw [lnV_no h]; rfl
theorem lnV_len (l : List (Int × Int)) : (lnV l).length ≤ 10 := by
  cases h : isLn l
  · rw [lnV_no h]; simp
  · rw [lnV_yes h]; exact (isLn_yes h).2.1
theorem sgV_len (l : List (Int × Int)) : (sgV l).length ≤ 9 := by
  unfold sgV; rw [jts_len]; have := lnV_len l; omega
theorem sgV_pos {l : List (Int × Int)} (h : isLn l = true) : 0 < (sgV l).length := by
  rw [sgV_yes h, jts_len]; have := (isLn_yes h).1; omega
theorem sgV_pos_iff (l : List (Int × Int)) : decide ((0 : Int) < (sgV l).length) = isLn l := by
  cases h : isLn l
  · rw [sgV_no h]; rfl
  · have := sgV_pos h; simp; omega
theorem sgV_ok {l : List (Int × Int)} {s : Int × Int × Int × Int} (h : s ∈ sgV l) : sOk s = true := by
  cases hl : isLn l
  · rw [sgV_no hl] at h; cases h
  · rw [sgV_yes hl] at h; exact (isLn_yes hl).2.2 s h
/-- What the model asks of the i-th point. -/
def ptOk (l : List (Int × Int)) (i : Nat) : Bool := match l[i]? with
  | some (x, y) => isP x y && (i == 0 || !(l[i - 1]? == some (x, y)))
  | none => true
/-- The model's line: every point, then the number of points. -/
theorem isLn_pts (l : List (Int × Int)) : isLn l = (decide (∀ i, i < l.length → ptOk l i = true) && inB l.length 2 10) := by
  rw [isLn, Bool.and_comm]
  cases hb : inB (l.length : Int) 2 10
  · rw [Bool.and_false, Bool.and_false]
  · rw [Bool.and_true, Bool.and_true]
    have h2 : 2 ≤ l.length := by simp only [inB, decide_eq_true_eq] at hb; omega
    rw [Bool.eq_iff_iff, decide_eq_true_eq, List.all_eq_true]
    constructor
    · intro h i hi
      unfold ptOk
      by_cases h0 : i + 1 < l.length
      · obtain ⟨a, b, c, d, g1, g2, g3⟩ := jts_at h0
        have hs := isS_at (h _ (List.mem_of_getElem? g3))
        rw [g1]
        simp only [Bool.and_eq_true, Bool.or_eq_true, beq_iff_eq, Bool.not_eq_true', beq_eq_false_iff_ne]
        refine ⟨isP_of hs.1.1 hs.1.2.1 hs.1.2.2.1 hs.1.2.2.2, ?_⟩
        by_cases hz : i = 0
        · exact .inl hz
        · right
          obtain ⟨a', b', c', d', k1, k2, k3⟩ := jts_at (l := l) (j := i - 1) (by omega)
          have hk := isS_at (h _ (List.mem_of_getElem? k3))
          rw [show i - 1 + 1 = i by omega, g1] at k2
          simp only [Option.some.injEq, Prod.mk.injEq] at k2
          rw [k1]
          intro e
          simp only [Option.some.injEq, Prod.mk.injEq] at e
          have hne := hk.2.2
          simp only at hne
          omega
      · obtain ⟨a', b', c', d', k1, k2, k3⟩ := jts_at (l := l) (j := i - 1) (by omega)
        have hk := isS_at (h _ (List.mem_of_getElem? k3))
        rw [show i - 1 + 1 = i by omega] at k2
        rw [k2]
        simp only [Bool.and_eq_true, Bool.or_eq_true, beq_iff_eq, Bool.not_eq_true', beq_eq_false_iff_ne]
        refine ⟨isP_of hk.2.1.1 hk.2.1.2.1 hk.2.1.2.2.1 hk.2.1.2.2.2, .inr ?_⟩
        rw [k1]
        intro e
        simp only [Option.some.injEq, Prod.mk.injEq] at e
        have hne := hk.2.2
        simp only at hne
        omega
    · intro h s hs
      obtain ⟨j, hj⟩ := List.getElem?_of_mem hs
      obtain ⟨a, b, c, d⟩ := s
      obtain ⟨h1, h3⟩ := jts_inv hj
      have hl := (List.getElem?_eq_some_iff.1 h3).1
      have p1 := h j (by omega)
      have p2 := h (j + 1) hl
      unfold ptOk at p1 p2
      rw [h1] at p1
      rw [h3] at p2
      simp only [Bool.and_eq_true, Bool.or_eq_true, beq_iff_eq, Bool.not_eq_true', beq_eq_false_iff_ne, Nat.add_sub_cancel] at p1 p2
      refine isS_of (isP_bd p1.1) (isP_bd p2.1) ?_
      show a ≠ c ∨ b ≠ d
      rcases p2.2 with h | h
      · omega
      · rw [h1] at h
        simp only [ne_eq, Option.some.injEq, Prod.mk.injEq] at h
        omega
/-- How two segments meet; the steps of one. -/
def howS (s t : Int × Int × Int × Int) : Int := howV s.1 s.2.1 s.2.2.1 s.2.2.2 t.1 t.2.1 t.2.2.1 t.2.2.2
def stS (s : Int × Int × Int × Int) : Int := stepsV s.1 s.2.1 s.2.2.1 s.2.2.2
theorem howS_comm (s t : Int × Int × Int × Int) : howS t s = howS s t := how_comm _ _ _ _ _ _ _ _
theorem howS_bd (s t : Int × Int × Int × Int) : 0 ≤ howS s t ∧ howS s t ≤ 3 := how_bd _ _ _ _ _ _ _ _
/-- Do the i-th and the k-th meet as they should (i < k)? -/
def mtOk (s : List (Int × Int × Int × Int)) (i k : Nat) : Bool := match s[i]?, s[k]? with
  | some u, some v => howS u v == (if i + 1 = k then 1 else 0)
  | _, _ => true
def smpV (l : List (Int × Int)) : Bool := decide (∀ k, k < (sgV l).length → ∀ i, i < k → mtOk (sgV l) i k = true) && isLn l
theorem mtOk_at {s : List (Int × Int × Int × Int)} {i k : Nat} {u v : Int × Int × Int × Int} (h : s[i]? = some u) (h' : s[k]? = some v) : mtOk s i k = (howS u v == (if i + 1 = k then 1 else 0)) := by
  unfold mtOk; rw [h, h']
/-- The steps of a line. -/
def stpV (s : List (Int × Int × Int × Int)) : Int := s.foldl (fun n x => n + stS x) 0
theorem stpV_snoc (s : List (Int × Int × Int × Int)) (x : Int × Int × Int × Int) : stpV (s ++ [x]) = stpV s + stS x := by simp [stpV]
theorem stS_bd (s : Int × Int × Int × Int) : -1 ≤ stS s ∧ stS s ≤ 400 := by
  obtain ⟨a, b, c, d⟩ := s
  show -1 ≤ stepsV a b c d ∧ stepsV a b c d ≤ 400
  cases h : isP2 a b c d
  · rw [steps_no h]; omega
  · obtain ⟨h1, h2⟩ := isP2_bd h
    rw [steps_yes h, ext_sub, ext_sub]; omega
theorem stpV_bd (s : List (Int × Int × Int × Int)) : -(s.length : Int) ≤ stpV s ∧ stpV s ≤ 400 * s.length := by
  induction s using revInd with
  | h0 => simp [stpV]
  | h s x ih =>
    rw [stpV_snoc, List.length_append, List.length_singleton]
    have := stS_bd x
    omega
/-- The greatest meeting of one with those of a list; of two lists. -/
def mxS (n : Int) (s : Int × Int × Int × Int) (t : List (Int × Int × Int × Int)) : Int := t.foldl (fun n x => extV true n (howS s x)) n
def mtV (s t : List (Int × Int × Int × Int)) : Int := s.foldl (fun n x => mxS n x t) 0
theorem mxS_snoc (n : Int) (s : Int × Int × Int × Int) (t : List (Int × Int × Int × Int)) (x : Int × Int × Int × Int) : mxS n s (t ++ [x]) = extV true (mxS n s t) (howS s x) := by simp [mxS]
theorem mtV_snoc (s t : List (Int × Int × Int × Int)) (x : Int × Int × Int × Int) : mtV (s ++ [x]) t = mxS (mtV s t) x t := by simp [mtV]
theorem mxS_le (n : Int) (s : Int × Int × Int × Int) (t : List (Int × Int × Int × Int)) (m : Int) : mxS n s t ≤ m ↔ n ≤ m ∧ ∀ x ∈ t, howS s x ≤ m := by
  induction t using revInd with
  | h0 => simp [mxS]
  | h t x ih =>
    rw [mxS_snoc, ext_max, Int.max_le, ih]
    simp only [List.mem_append, List.mem_singleton]
    exact ⟨fun h => ⟨h.1.1, fun y hy => hy.elim (h.1.2 y) fun e => e ▸ h.2⟩, fun h => ⟨⟨h.1, fun y hy => h.2 y (.inl hy)⟩, h.2 x (.inr rfl)⟩⟩
theorem mtV_le (s t : List (Int × Int × Int × Int)) (m : Int) : mtV s t ≤ m ↔ 0 ≤ m ∧ ∀ x ∈ s, ∀ y ∈ t, howS x y ≤ m := by
  induction s using revInd with
  | h0 => simp [mtV]
  | h s x ih =>
    rw [mtV_snoc, mxS_le, ih]
    simp only [List.mem_append, List.mem_singleton]
    exact ⟨fun h => ⟨h.1.1, fun y hy => hy.elim (h.1.2 y) fun e => e ▸ h.2⟩, fun h => ⟨⟨h.1, fun y hy => h.2 y (.inl hy)⟩, h.2 x (.inr rfl)⟩⟩
theorem mtV_bd (s t : List (Int × Int × Int × Int)) : mtV s t ≤ 3 := (mtV_le s t 3).2 ⟨by omega, fun x _ y _ => (howS_bd x y).2⟩
theorem mxS_bd (n : Int) (s : Int × Int × Int × Int) (t : List (Int × Int × Int × Int)) (h : n ≤ 3) : mxS n s t ≤ 3 := (mxS_le n s t 3).2 ⟨h, fun y _ => (howS_bd s y).2⟩
theorem mtV_eq {s t s' t' : List (Int × Int × Int × Int)} (h : ∀ m, (∀ x ∈ s, ∀ y ∈ t, howS x y ≤ m) ↔ (∀ x ∈ s', ∀ y ∈ t', howS x y ≤ m)) : mtV s t = mtV s' t' := by
  have h1 := (mtV_le s t (mtV s' t')).2 (by have := (mtV_le s' t' _).1 (Int.le_refl _); exact ⟨this.1, (h _).2 this.2⟩)
  have h2 := (mtV_le s' t' (mtV s t)).2 (by have := (mtV_le s t _).1 (Int.le_refl _); exact ⟨this.1, (h _).1 this.2⟩)
  omega
theorem mtV_comm (s t : List (Int × Int × Int × Int)) : mtV t s = mtV s t :=
  mtV_eq fun m => ⟨fun h x hx y hy => by rw [howS_comm]; exact h y hy x hx, fun h x hx y hy => by rw [howS_comm]; exact h y hy x hx⟩
/-! ### Turned round -/
def trS (s : Int × Int × Int × Int) : Int × Int × Int × Int := (s.2.2.1, s.2.2.2, s.1, s.2.1)
theorem trS_trS (s : Int × Int × Int × Int) : trS (trS s) = s := rfl
theorem sOk_tr (s : Int × Int × Int × Int) : sOk (trS s) = sOk s := isS_turn _ _ _ _
theorem howS_tr (s t : Int × Int × Int × Int) : howS (trS s) t = howS s t := how_turn _ _ _ _ _ _ _ _
theorem howS_tr2 (s t : Int × Int × Int × Int) : howS s (trS t) = howS s t := how_turn2 _ _ _ _ _ _ _ _
theorem stS_tr (s : Int × Int × Int × Int) : stS (trS s) = stS s := by
  obtain ⟨a, b, c, d⟩ := s
  show stepsV c d a b = stepsV a b c d
  unfold stepsV
  rw [show isP2 c d a b = isP2 a b c d from Bool.and_comm _ _, ext_sub, ext_sub, ext_sub, ext_sub, show (c - a).natAbs = (a - c).natAbs by omega, show (d - b).natAbs = (b - d).natAbs by omega]
theorem jts_rev (l : List (Int × Int)) : jts l.reverse = (jts l).reverse.map trS := by
  apply List.ext_getElem?
  intro j
  by_cases hj : j + 1 < l.length
  · obtain ⟨a, b, c, d, h1, h2, h3⟩ := jts_at (l := l) (j := l.length - 1 - j - 1) (by omega)
    have e1 : l.reverse[j]? = some (c, d) := by rw [List.getElem?_reverse (by omega), show l.length - 1 - j = l.length - 1 - j - 1 + 1 by omega]; exact h2
    have e2 : l.reverse[j + 1]? = some (a, b) := by rw [List.getElem?_reverse (by omega), show l.length - 1 - (j + 1) = l.length - 1 - j - 1 by omega]; exact h1
    rw [jts_get e1 e2, List.getElem?_map, List.getElem?_reverse (by rw [jts_len]; omega), jts_len, show l.length - 1 - 1 - j = l.length - 1 - j - 1 by omega, h3]
    rfl
  · rw [List.getElem?_eq_none (by rw [jts_len]; simp; omega), List.getElem?_eq_none (by rw [List.length_map, List.length_reverse, jts_len]; omega)]
theorem isLn_rev (l : List (Int × Int)) : isLn l.reverse = isLn l := by
  unfold isLn
  rw [List.length_reverse, jts_rev, List.all_map, List.all_reverse]
  congr 1
  exact congrArg (List.all (jts l)) (funext fun s => sOk_tr s)
theorem sgV_rev (l : List (Int × Int)) : sgV l.reverse = (sgV l).reverse.map trS := by
  cases h : isLn l
  · rw [sgV_no h, sgV_no (by rw [isLn_rev]; exact h)]; rfl
  · rw [sgV_yes h, sgV_yes (by rw [isLn_rev]; exact h), jts_rev]
theorem mem_rev {l : List (Int × Int)} {s : Int × Int × Int × Int} : s ∈ sgV l.reverse ↔ trS s ∈ sgV l := by
  rw [sgV_rev, List.mem_map]
  constructor
  · rintro ⟨t, ht, rfl⟩
    rw [trS_trS]; exact List.mem_reverse.1 ht
  · intro h
    exact ⟨trS s, List.mem_reverse.2 h, trS_trS s⟩
theorem mtV_rev (l : List (Int × Int)) (t : List (Int × Int × Int × Int)) : mtV (sgV l.reverse) t = mtV (sgV l) t :=
  mtV_eq fun m => ⟨fun h x hx y hy => by rw [← howS_tr]; exact h _ (mem_rev.2 (by rw [trS_trS]; exact hx)) y hy, fun h x hx y hy => by rw [← howS_tr]; exact h _ (mem_rev.1 hx) y hy⟩
theorem stpV_sum (s : List (Int × Int × Int × Int)) : stpV s = (s.map stS).sum := by
  induction s using revInd with
  | h0 => rfl
  | h s x ih => rw [stpV_snoc, ih, List.map_append, List.sum_append]; simp
theorem stpV_rev (l : List (Int × Int)) : stpV (sgV l.reverse) = stpV (sgV l) := by
  rw [stpV_sum, stpV_sum, sgV_rev, List.map_map, List.map_reverse, List.sum_reverse]
  congr 1
  exact List.map_congr_left fun s _ => stS_tr s
theorem smpV_rev (l : List (Int × Int)) : smpV l.reverse = smpV l := by
  unfold smpV
  rw [isLn_rev]
  congr 1
  rw [decide_eq_decide]
  have hl : (sgV l.reverse).length = (sgV l).length := by rw [sgV_rev]; simp
  have key : ∀ i k, i < k → k < (sgV l).length → mtOk (sgV l.reverse) i k = mtOk (sgV l) ((sgV l).length - 1 - k) ((sgV l).length - 1 - i) := fun i k hik hk => by
    obtain ⟨u, hu⟩ : ∃ u, (sgV l)[(sgV l).length - 1 - i]? = some u := ⟨_, List.getElem?_eq_getElem (by omega)⟩
    obtain ⟨v, hv⟩ : ∃ v, (sgV l)[(sgV l).length - 1 - k]? = some v := ⟨_, List.getElem?_eq_getElem (by omega)⟩
    have hu' : (sgV l.reverse)[i]? = some (trS u) := by rw [sgV_rev, List.getElem?_map, List.getElem?_reverse (by omega), hu]; rfl
    have hv' : (sgV l.reverse)[k]? = some (trS v) := by rw [sgV_rev, List.getElem?_map, List.getElem?_reverse (by omega), hv]; rfl
    rw [mtOk_at hu' hv', mtOk_at hv hu, howS_tr, howS_tr2, howS_comm]
    have e : (i + 1 = k) ↔ ((sgV l).length - 1 - k + 1 = (sgV l).length - 1 - i) := by omega
    simp only [e]
  rw [hl]
  constructor
  · intro h k hk i hi
    have := h ((sgV l).length - 1 - i) (by omega) ((sgV l).length - 1 - k) (by omega)
    rw [key _ _ (by omega) (by omega), show (sgV l).length - 1 - ((sgV l).length - 1 - i) = i by omega, show (sgV l).length - 1 - ((sgV l).length - 1 - k) = k by omega] at this
    exact this
  · intro h k hk i hi
    rw [key _ _ hi hk]
    exact h _ (by omega) _ (by omega)
end Go.Proofs.YtbnjaaegbmhopaaGreatDoor
