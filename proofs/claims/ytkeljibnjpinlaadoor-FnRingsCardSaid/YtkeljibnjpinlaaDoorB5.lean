/- Texts of this seat, one behind the other. -/
import Derived.Test.YtkeljibnjpinlaaDoorB3
import Derived.Test.YtkeljibnjpinlaaDoorB4
/- Lines: what the functions of chapter 6 give, by values. -/
namespace Go.Proofs.YtkeljibnjpinlaaDoor
open Go.RowKit
set_option linter.unusedVariables false

theorem revInd {α : Type} {P : List α → Prop} (h0 : P []) (h : ∀ s x, P s → P (s ++ [x])) (l : List α) : P l := by
  have key : ∀ m : List α, P m.reverse := by
    intro m
    induction m with
    | nil => exact h0
    | cons x r ih => rw [List.reverse_cons]; exact h _ _ ih
  have := key l.reverse
  rwa [List.reverse_reverse] at this
/-- The segments from each point to the next one. -/
def jts : List (Int × Int) → List (Int × Int × Int × Int)
  | p :: q :: r => (p.1, p.2, q.1, q.2) :: jts (q :: r)
  | _ => []
theorem jts_len (l : List (Int × Int)) : (jts l).length = l.length - 1 := by
  match l with
  | [] => rfl
  | [_] => rfl
  | p :: q :: r => rw [jts, List.length_cons, jts_len (q :: r)]; simp
theorem jts_get {l : List (Int × Int)} {j : Nat} {a b c d : Int} (h : l[j]? = some (a, b)) (h' : l[j + 1]? = some (c, d)) : (jts l)[j]? = some (a, b, c, d) := by
  match l, j, h, h' with
  | [], _, h, _ => simp at h
  | [_], 0, _, h' => simp at h'
  | [_], j + 1, h, _ => simp at h
  | p :: q :: r, 0, h, h' => simp at h h'; subst h; subst h'; rfl
  | p :: q :: r, j + 1, h, h' =>
    rw [jts, List.getElem?_cons_succ]
    exact jts_get (by simpa using h) (by simpa using h')
theorem jts_at {l : List (Int × Int)} {j : Nat} (h : j + 1 < l.length) : ∃ a b c d, l[j]? = some (a, b) ∧ l[j + 1]? = some (c, d) ∧ (jts l)[j]? = some (a, b, c, d) := by
  have h1 : l[j]? = some (l[j]'(by omega)) := List.getElem?_eq_getElem _
  have h2 : l[j + 1]? = some (l[j + 1]'(by omega)) := List.getElem?_eq_getElem _
  exact ⟨_, _, _, _, h1, h2, jts_get h1 h2⟩
theorem jts_inv {l : List (Int × Int)} {j : Nat} {a b c d : Int} (h : (jts l)[j]? = some (a, b, c, d)) : l[j]? = some (a, b) ∧ l[j + 1]? = some (c, d) := by
  have hl := (List.getElem?_eq_some_iff.1 h).1
  rw [jts_len] at hl
  obtain ⟨a', b', c', d', h1, h2, h3⟩ := jts_at (l := l) (j := j) (by omega)
  rw [h] at h3
  simp only [Option.some.injEq, Prod.mk.injEq] at h3
  obtain ⟨rfl, rfl, rfl, rfl⟩ := h3
  exact ⟨h1, h2⟩
/-- Is it a segment? -/
def sOk (s : Int × Int × Int × Int) : Bool := isS s.1 s.2.1 s.2.2.1 s.2.2.2
/-- Is it a line? -/
def isLn (l : List (Int × Int)) : Bool := inB l.length 2 10 && (jts l).all sOk
theorem isLn_yes {l : List (Int × Int)} (h : isLn l = true) : 2 ≤ l.length ∧ l.length ≤ 10 ∧ ∀ s ∈ jts l, sOk s = true := by
  simp only [isLn, inB, Bool.and_eq_true, List.all_eq_true, decide_eq_true_eq] at h
  exact ⟨by omega, by omega, h.2⟩
theorem isLn_of {l : List (Int × Int)} (h : 2 ≤ l.length) (h' : l.length ≤ 10) (ha : ∀ s ∈ jts l, sOk s = true) : isLn l = true := by
  simp only [isLn, inB, Bool.and_eq_true, List.all_eq_true, decide_eq_true_eq]
  exact ⟨by omega, ha⟩
/-- The line, or no points; its segments. -/
def lnV (l : List (Int × Int)) : List (Int × Int) := if isLn l = true then l else []
def sgV (l : List (Int × Int)) : List (Int × Int × Int × Int) := jts (lnV l)
theorem lnV_yes {l : List (Int × Int)} (h : isLn l = true) : lnV l = l := by unfold lnV; rw [if_pos h]
theorem lnV_no {l : List (Int × Int)} (h : isLn l = false) : lnV l = [] := by unfold lnV; rw [h]; rfl
theorem sgV_yes {l : List (Int × Int)} (h : isLn l = true) : sgV l = jts l := by unfold sgV; rw [lnV_yes h]
theorem sgV_no {l : List (Int × Int)} (h : isLn l = false) : sgV l = [] := by unfold sgV; rw [lnV_no h]; rfl
theorem lnV_len (l : List (Int × Int)) : (lnV l).length ≤ 10 := by
  cases h : isLn l
  · rw [lnV_no h]; simp
  · rw [lnV_yes h]; exact (isLn_yes h).2.1
theorem sgV_len (l : List (Int × Int)) : (sgV l).length ≤ 9 := by
  unfold sgV; rw [jts_len]; have := lnV_len l; omega
theorem sgV_pos {l : List (Int × Int)} (h : isLn l = true) : 0 < (sgV l).length := by
  rw [sgV_yes h, jts_len]; have := (isLn_yes h).1; omega
theorem sgV_pos_iff (l : List (Int × Int)) : decide ((0 : Int) < (sgV l).length) = isLn l := by
  cases h : isLn l
  · rw [sgV_no h]; rfl
  · have := sgV_pos h; simp; omega
theorem sgV_ok {l : List (Int × Int)} {s : Int × Int × Int × Int} (h : s ∈ sgV l) : sOk s = true := by
  cases hl : isLn l
  · rw [sgV_no hl] at h; cases h
  · rw [sgV_yes hl] at h; exact (isLn_yes hl).2.2 s h
/-- What the model asks of the i-th point. -/
def ptOk (l : List (Int × Int)) (i : Nat) : Bool := match l[i]? with
  | some (x, y) => isP x y && (i == 0 || !(l[i - 1]? == some (x, y)))
  | none => true
/-- The model's line: every point, then the number of points. -/
theorem isLn_pts (l : List (Int × Int)) : isLn l = (decide (∀ i, i < l.length → ptOk l i = true) && inB l.length 2 10) := by
  rw [isLn, Bool.and_comm]
  cases hb : inB (l.length : Int) 2 10
  · rw [Bool.and_false, Bool.and_false]
  · rw [Bool.and_true, Bool.and_true]
    have h2 : 2 ≤ l.length := by simp only [inB, decide_eq_true_eq] at hb; omega
    rw [Bool.eq_iff_iff, decide_eq_true_eq, List.all_eq_true]
    constructor
    · intro h i hi
      unfold ptOk
      by_cases h0 : i + 1 < l.length
      · obtain ⟨a, b, c, d, g1, g2, g3⟩ := jts_at h0
        have hs := isS_at (h _ (List.mem_of_getElem? g3))
        rw [g1]
        simp only [Bool.and_eq_true, Bool.or_eq_true, beq_iff_eq, Bool.not_eq_true', beq_eq_false_iff_ne]
        refine ⟨isP_of hs.1.1 hs.1.2.1 hs.1.2.2.1 hs.1.2.2.2, ?_⟩
        by_cases hz : i = 0
        · exact .inl hz
        · right
          obtain ⟨a', b', c', d', k1, k2, k3⟩ := jts_at (l := l) (j := i - 1) (by omega)
          have hk := isS_at (h _ (List.mem_of_getElem? k3))
          rw [show i - 1 + 1 = i by omega, g1] at k2
          simp only [Option.some.injEq, Prod.mk.injEq] at k2
          rw [k1]
          intro e
          simp only [Option.some.injEq, Prod.mk.injEq] at e
          have hne := hk.2.2
          simp only at hne
          omega
      · obtain ⟨a', b', c', d', k1, k2, k3⟩ := jts_at (l := l) (j := i - 1) (by omega)
        have hk := isS_at (h _ (List.mem_of_getElem? k3))
        rw [show i - 1 + 1 = i by omega] at k2
        rw [k2]
        simp only [Bool.and_eq_true, Bool.or_eq_true, beq_iff_eq, Bool.not_eq_true', beq_eq_false_iff_ne]
        refine ⟨isP_of hk.2.1.1 hk.2.1.2.1 hk.2.1.2.2.1 hk.2.1.2.2.2, .inr ?_⟩
        rw [k1]
        intro e
        simp only [Option.some.injEq, Prod.mk.injEq] at e
        have hne := hk.2.2
        simp only at hne
        omega
    · intro h s hs
      obtain ⟨j, hj⟩ := List.getElem?_of_mem hs
      obtain ⟨a, b, c, d⟩ := s
      obtain ⟨h1, h3⟩ := jts_inv hj
      have hl := (List.getElem?_eq_some_iff.1 h3).1
      have p1 := h j (by omega)
      have p2 := h (j + 1) hl
      unfold ptOk at p1 p2
      rw [h1] at p1
      rw [h3] at p2
      simp only [Bool.and_eq_true, Bool.or_eq_true, beq_iff_eq, Bool.not_eq_true', beq_eq_false_iff_ne, Nat.add_sub_cancel] at p1 p2
      refine isS_of (isP_bd p1.1) (isP_bd p2.1) ?_
      show a ≠ c ∨ b ≠ d
      rcases p2.2 with h | h
      · omega
      · rw [h1] at h
        simp only [ne_eq, Option.some.injEq, Prod.mk.injEq] at h
        omega
/-- How two segments meet; the steps of one. -/
def howS (s t : Int × Int × Int × Int) : Int := howV s.1 s.2.1 s.2.2.1 s.2.2.2 t.1 t.2.1 t.2.2.1 t.2.2.2
def stS (s : Int × Int × Int × Int) : Int := stepsV s.1 s.2.1 s.2.2.1 s.2.2.2
theorem howS_comm (s t : Int × Int × Int × Int) : howS t s = howS s t := how_comm _ _ _ _ _ _ _ _
theorem howS_bd (s t : Int × Int × Int × Int) : 0 ≤ howS s t ∧ howS s t ≤ 3 := how_bd _ _ _ _ _ _ _ _
/-- Do the i-th and the k-th meet as they should (i < k)? -/
def mtOk (s : List (Int × Int × Int × Int)) (i k : Nat) : Bool := match s[i]?, s[k]? with
  | some u, some v => howS u v == (if i + 1 = k then 1 else 0)
  | _, _ => true
def smpV (l : List (Int × Int)) : Bool := decide (∀ k, k < (sgV l).length → ∀ i, i < k → mtOk (sgV l) i k = true) && isLn l
theorem mtOk_at {s : List (Int × Int × Int × Int)} {i k : Nat} {u v : Int × Int × Int × Int} (h : s[i]? = some u) (h' : s[k]? = some v) : mtOk s i k = (howS u v == (if i + 1 = k then 1 else 0)) := by
  unfold mtOk; rw [h, h']
/-- The steps of a line. -/
def stpV (s : List (Int × Int × Int × Int)) : Int := s.foldl (fun n x => n + stS x) 0
theorem stpV_snoc (s : List (Int × Int × Int × Int)) (x : Int × Int × Int × Int) : stpV (s ++ [x]) = stpV s + stS x := by simp [stpV]
theorem stS_bd (s : Int × Int × Int × Int) : -1 ≤ stS s ∧ stS s ≤ 400 := by
  obtain ⟨a, b, c, d⟩ := s
  show -1 ≤ stepsV a b c d ∧ stepsV a b c d ≤ 400
  cases h : isP2 a b c d
  · rw [steps_no h]; omega
  · obtain ⟨h1, h2⟩ := isP2_bd h
    rw [steps_yes h, ext_sub, ext_sub]; omega
theorem stpV_bd (s : List (Int × Int × Int × Int)) : -(s.length : Int) ≤ stpV s ∧ stpV s ≤ 400 * s.length := by
  induction s using revInd with
  | h0 => simp [stpV]
  | h s x ih =>
    rw [stpV_snoc, List.length_append, List.length_singleton]
    have := stS_bd x
    omega
/-- The greatest meeting of one with those of a list; of two lists. -/
def mxS (n : Int) (s : Int × Int × Int × Int) (t : List (Int × Int × Int × Int)) : Int := t.foldl (fun n x => extV true n (howS s x)) n
def mtV (s t : List (Int × Int × Int × Int)) : Int := s.foldl (fun n x => mxS n x t) 0
theorem mxS_snoc (n : Int) (s : Int × Int × Int × Int) (t : List (Int × Int × Int × Int)) (x : Int × Int × Int × Int) : mxS n s (t ++ [x]) = extV true (mxS n s t) (howS s x) := by simp [mxS]
theorem mtV_snoc (s t : List (Int × Int × Int × Int)) (x : Int × Int × Int × Int) : mtV (s ++ [x]) t = mxS (mtV s t) x t := by simp [mtV]
theorem mxS_le (n : Int) (s : Int × Int × Int × Int) (t : List (Int × Int × Int × Int)) (m : Int) : mxS n s t ≤ m ↔ n ≤ m ∧ ∀ x ∈ t, howS s x ≤ m := by
  induction t using revInd with
  | h0 => simp [mxS]
  | h t x ih =>
    rw [mxS_snoc, ext_max, Int.max_le, ih]
    simp only [List.mem_append, List.mem_singleton]
    exact ⟨fun h => ⟨h.1.1, fun y hy => hy.elim (h.1.2 y) fun e => e ▸ h.2⟩, fun h => ⟨⟨h.1, fun y hy => h.2 y (.inl hy)⟩, h.2 x (.inr rfl)⟩⟩
theorem mtV_le (s t : List (Int × Int × Int × Int)) (m : Int) : mtV s t ≤ m ↔ 0 ≤ m ∧ ∀ x ∈ s, ∀ y ∈ t, howS x y ≤ m := by
  induction s using revInd with
  | h0 => simp [mtV]
  | h s x ih =>
    rw [mtV_snoc, mxS_le, ih]
    simp only [List.mem_append, List.mem_singleton]
    exact ⟨fun h => ⟨h.1.1, fun y hy => hy.elim (h.1.2 y) fun e => e ▸ h.2⟩, fun h => ⟨⟨h.1, fun y hy => h.2 y (.inl hy)⟩, h.2 x (.inr rfl)⟩⟩
theorem mtV_bd (s t : List (Int × Int × Int × Int)) : mtV s t ≤ 3 := (mtV_le s t 3).2 ⟨by omega, fun x _ y _ => (howS_bd x y).2⟩
theorem mxS_bd (n : Int) (s : Int × Int × Int × Int) (t : List (Int × Int × Int × Int)) (h : n ≤ 3) : mxS n s t ≤ 3 := (mxS_le n s t 3).2 ⟨h, fun y _ => (howS_bd s y).2⟩
theorem mtV_eq {s t s' t' : List (Int × Int × Int × Int)} (h : ∀ m, (∀ x ∈ s, ∀ y ∈ t, howS x y ≤ m) ↔ (∀ x ∈ s', ∀ y ∈ t', howS x y ≤ m)) : mtV s t = mtV s' t' := by
  have h1 := (mtV_le s t (mtV s' t')).2 (by have := (mtV_le s' t' _).1 (Int.le_refl _); exact ⟨this.1, (h _).2 this.2⟩)
  have h2 := (mtV_le s' t' (mtV s t)).2 (by have := (mtV_le s t _).1 (Int.le_refl _); exact ⟨this.1, (h _).1 this.2⟩)
  omega
theorem mtV_comm (s t : List (Int × Int × Int × Int)) : mtV t s = mtV s t :=
  mtV_eq fun m => ⟨fun h x hx y hy => by rw [howS_comm]; exact h y hy x hx, fun h x hx y hy => by rw [howS_comm]; exact h y hy x hx⟩
/-! ### Turned round -/
def trS (s : Int × Int × Int × Int) : Int × Int × Int × Int := (s.2.2.1, s.2.2.2, s.1, s.2.1)
theorem trS_trS (s : Int × Int × Int × Int) : trS (trS s) = s := rfl
theorem sOk_tr (s : Int × Int × Int × Int) : sOk (trS s) = sOk s := isS_turn _ _ _ _
theorem howS_tr (s t : Int × Int × Int × Int) : howS (trS s) t = howS s t := how_turn _ _ _ _ _ _ _ _
theorem howS_tr2 (s t : Int × Int × Int × Int) : howS s (trS t) = howS s t := how_turn2 _ _ _ _ _ _ _ _
theorem stS_tr (s : Int × Int × Int × Int) : stS (trS s) = stS s := by
  obtain ⟨a, b, c, d⟩ := s
  show stepsV c d a b = stepsV a b c d
  unfold stepsV
  rw [show isP2 c d a b = isP2 a b c d from Bool.and_comm _ _, ext_sub, ext_sub, ext_sub, ext_sub, show (c - a).natAbs = (a - c).natAbs by omega, show (d - b).natAbs = (b - d).natAbs by omega]
theorem jts_rev (l : List (Int × Int)) : jts l.reverse = (jts l).reverse.map trS := by
  apply List.ext_getElem?
  intro j
  by_cases hj : j + 1 < l.length
  · obtain ⟨a, b, c, d, h1, h2, h3⟩ := jts_at (l := l) (j := l.length - 1 - j - 1) (by omega)
    have e1 : l.reverse[j]? = some (c, d) := by rw [List.getElem?_reverse (by omega), show l.length - 1 - j = l.length - 1 - j - 1 + 1 by omega]; exact h2
    have e2 : l.reverse[j + 1]? = some (a, b) := by rw [List.getElem?_reverse (by omega), show l.length - 1 - (j + 1) = l.length - 1 - j - 1 by omega]; exact h1
    rw [jts_get e1 e2, List.getElem?_map, List.getElem?_reverse (by rw [jts_len]; omega), jts_len, show l.length - 1 - 1 - j = l.length - 1 - j - 1 by omega, h3]
    rfl
  · rw [List.getElem?_eq_none (by rw [jts_len]; simp; omega), List.getElem?_eq_none (by rw [List.length_map, List.length_reverse, jts_len]; omega)]
theorem isLn_rev (l : List (Int × Int)) : isLn l.reverse = isLn l := by
  unfold isLn
  rw [List.length_reverse, jts_rev, List.all_map, List.all_reverse]
  congr 1
  exact congrArg (List.all (jts l)) (funext fun s => sOk_tr s)
theorem sgV_rev (l : List (Int × Int)) : sgV l.reverse = (sgV l).reverse.map trS := by
  cases h : isLn l
  · rw [sgV_no h, sgV_no (by rw [isLn_rev]; exact h)]; rfl
  · rw [sgV_yes h, sgV_yes (by rw [isLn_rev]; exact h), jts_rev]
theorem mem_rev {l : List (Int × Int)} {s : Int × Int × Int × Int} : s ∈ sgV l.reverse ↔ trS s ∈ sgV l := by
  rw [sgV_rev, List.mem_map]
  constructor
  · rintro ⟨t, ht, rfl⟩
    rw [trS_trS]; exact List.mem_reverse.1 ht
  · intro h
    exact ⟨trS s, List.mem_reverse.2 h, trS_trS s⟩
theorem mtV_rev (l : List (Int × Int)) (t : List (Int × Int × Int × Int)) : mtV (sgV l.reverse) t = mtV (sgV l) t :=
  mtV_eq fun m => ⟨fun h x hx y hy => by rw [← howS_tr]; exact h _ (mem_rev.2 (by rw [trS_trS]; exact hx)) y hy, fun h x hx y hy => by rw [← howS_tr]; exact h _ (mem_rev.1 hx) y hy⟩
theorem stpV_sum (s : List (Int × Int × Int × Int)) : stpV s = (s.map stS).sum := by
  induction s using revInd with
  | h0 => rfl
  | h s x ih => rw [stpV_snoc, ih, List.map_append, List.sum_append]; simp
theorem stpV_rev (l : List (Int × Int)) : stpV (sgV l.reverse) = stpV (sgV l) := by
  rw [stpV_sum, stpV_sum, sgV_rev, List.map_map, List.map_reverse, List.sum_reverse]
  congr 1
  exact List.map_congr_left fun s _ => stS_tr s
theorem smpV_rev (l : List (Int × Int)) : smpV l.reverse = smpV l := by
  unfold smpV
  rw [isLn_rev]
  congr 1
  rw [decide_eq_decide]
  have hl : (sgV l.reverse).length = (sgV l).length := by rw [sgV_rev]; simp
  have key : ∀ i k, i < k → k < (sgV l).length → mtOk (sgV l.reverse) i k = mtOk (sgV l) ((sgV l).length - 1 - k) ((sgV l).length - 1 - i) := fun i k hik hk => by
    obtain ⟨u, hu⟩ : ∃ u, (sgV l)[(sgV l).length - 1 - i]? = some u := ⟨_, List.getElem?_eq_getElem (by omega)⟩
    obtain ⟨v, hv⟩ : ∃ v, (sgV l)[(sgV l).length - 1 - k]? = some v := ⟨_, List.getElem?_eq_getElem (by omega)⟩
    have hu' : (sgV l.reverse)[i]? = some (trS u) := by rw [sgV_rev, List.getElem?_map, List.getElem?_reverse (by omega), hu]; rfl
    have hv' : (sgV l.reverse)[k]? = some (trS v) := by rw [sgV_rev, List.getElem?_map, List.getElem?_reverse (by omega), hv]; rfl
    rw [mtOk_at hu' hv', mtOk_at hv hu, howS_tr, howS_tr2, howS_comm]
    have e : (i + 1 = k) ↔ ((sgV l).length - 1 - k + 1 = (sgV l).length - 1 - i) := by omega
    simp only [e]
  rw [hl]
  constructor
  · intro h k hk i hi
    have := h ((sgV l).length - 1 - i) (by omega) ((sgV l).length - 1 - k) (by omega)
    rw [key _ _ (by omega) (by omega), show (sgV l).length - 1 - ((sgV l).length - 1 - i) = i by omega, show (sgV l).length - 1 - ((sgV l).length - 1 - k) = k by omega] at this
    exact this
  · intro h k hk i hi
    rw [key _ _ hi hk]
    exact h _ (by omega) _ (by omega)
end Go.Proofs.YtkeljibnjpinlaaDoor

/- Rings: what the functions of chapter 7 give, by values; turned and rotated. -/
namespace Go.Proofs.YtkeljibnjpinlaaDoor
open Go.RowKit
set_option linter.unusedVariables false

/-- The segments of a closed list of points: from each point to the next one, from the last one to the first one. -/
def rgS (l : List (Int × Int)) : List (Int × Int × Int × Int) := jts (l ++ l.take 1)
theorem rgS_len (l : List (Int × Int)) : (rgS l).length = l.length := by
  rw [rgS, jts_len, List.length_append, List.length_take]
  cases l with
  | nil => rfl
  | cons a t => simp
/-- The i-th one. -/
theorem rgS_get {l : List (Int × Int)} {i : Nat} {a b c d : Int} (h : l[i]? = some (a, b)) (h' : l[(i + 1) % l.length]? = some (c, d)) : (rgS l)[i]? = some (a, b, c, d) := by
  have hi := (List.getElem?_eq_some_iff.1 h).1
  refine jts_get (by rw [List.getElem?_append_left hi]; exact h) ?_
  by_cases hl : i + 1 < l.length
  · rw [Nat.mod_eq_of_lt hl] at h'
    rw [List.getElem?_append_left hl]; exact h'
  · have e : i + 1 = l.length := by omega
    rw [e, Nat.mod_self] at h'
    rw [e, List.getElem?_append_right (Nat.le_refl _), Nat.sub_self, List.getElem?_take]
    simpa using h'
/-- Neighbours on a ring of n. -/
def adjC (n i k : Nat) : Prop := i + 1 = k ∨ k + 1 = i ∨ (i = 0 ∧ k + 1 = n) ∨ (k = 0 ∧ i + 1 = n)
instance (n i k : Nat) : Decidable (adjC n i k) := by unfold adjC; infer_instance
theorem adjC_comm (n i k : Nat) : adjC n k i ↔ adjC n i k := by unfold adjC; omega
/-- Neighbours touch, no others meet. -/
def CycOk (s : List (Int × Int × Int × Int)) : Prop := ∀ (i k : Nat) u v, s[i]? = some u → s[k]? = some v → i ≠ k → howS u v = if adjC s.length i k then 1 else 0
/-- It is enough to look at each pair once. -/
theorem cycOk_of {s : List (Int × Int × Int × Int)} (h : ∀ (i k : Nat) u v, s[i]? = some u → s[k]? = some v → k < i → howS u v = if adjC s.length i k then 1 else 0) : CycOk s := fun i k u v hu hv hn => by
  by_cases hk : k < i
  · exact h i k u v hu hv hk
  · rw [← howS_comm]
    rw [h k i v u hv hu (by omega)]
    simp only [adjC_comm]
def rgOk (s : List (Int × Int × Int × Int)) (i k : Nat) : Bool := match s[i]?, s[k]? with
  | some u, some v => howS u v == (if adjC s.length i k then 1 else 0)
  | _, _ => true
theorem rgOk_at {s : List (Int × Int × Int × Int)} {i k : Nat} {u v : Int × Int × Int × Int} (h : s[i]? = some u) (h' : s[k]? = some v) : rgOk s i k = (howS u v == (if adjC s.length i k then 1 else 0)) := by simp only [rgOk, h, h']
/-- Is it a ring? -/
def isRg (l : List (Int × Int)) : Bool := inB l.length 3 10 && ((rgS l).all sOk && decide (∀ i, i < (rgS l).length → ∀ k, k < i → rgOk (rgS l) i k = true))
theorem isRg_iff (l : List (Int × Int)) : isRg l = true ↔ (3 ≤ l.length ∧ l.length ≤ 10) ∧ (∀ s ∈ rgS l, sOk s = true) ∧ CycOk (rgS l) := by
  unfold isRg
  simp only [Bool.and_eq_true, List.all_eq_true, decide_eq_true_eq, inB]
  refine and_congr (by omega) (and_congr_right fun _ => ?_)
  constructor
  · intro h
    refine cycOk_of fun i k u v hu hv hk => ?_
    have := h i (List.getElem?_eq_some_iff.1 hu).1 k hk
    rw [rgOk_at hu hv, beq_iff_eq] at this
    exact this
  · intro h i hi k hk
    obtain ⟨u, hu⟩ : ∃ u, (rgS l)[i]? = some u := ⟨_, List.getElem?_eq_getElem hi⟩
    obtain ⟨v, hv⟩ : ∃ v, (rgS l)[k]? = some v := ⟨_, List.getElem?_eq_getElem (by omega)⟩
    rw [rgOk_at hu hv, beq_iff_eq]
    exact h i k u v hu hv (by omega)
/-- The area's part of one segment. -/
def arS (s : Int × Int × Int × Int) : Int := s.1 * s.2.2.2 - s.2.1 * s.2.2.1
def twA (l : List (Int × Int)) : Int := if isRg l = true then ((rgS l).map arS).sum else 0
theorem arS_tr (s : Int × Int × Int × Int) : arS (trS s) = -arS s := by
  obtain ⟨a, b, c, d⟩ := s
  show c * b - d * a = -(a * d - b * c)
  rw [Int.mul_comm c b, Int.mul_comm d a]; omega
/-- Does the segment cross the ray from p? -/
def crC (p : Int × Int) (s : Int × Int × Int × Int) : Bool :=
  (decide (s.2.1 > p.2) != decide (s.2.2.2 > p.2)) && ((decide (s.2.2.2 > s.2.1) && decide (crs s.1 s.2.1 s.2.2.1 s.2.2.2 p.1 p.2 > 0)) || (decide (s.2.2.2 < s.2.1) && decide (crs s.1 s.2.1 s.2.2.1 s.2.2.2 p.1 p.2 < 0)))
def onS (p : Int × Int) (s : Int × Int × Int × Int) : Bool := onV s.1 s.2.1 s.2.2.1 s.2.2.2 p.1 p.2
/-- On one of its segments, or inside: an odd number of them crosses the ray. -/
def inV (l : List (Int × Int)) (p : Int × Int) : Bool := (isRg l && isP p.1 p.2) && ((rgS l).any (onS p) || decide ((rgS l).countP (crC p) % 2 = 1))
theorem crs_flip (a b c d x y : Int) : crs c d a b x y = -crs a b c d x y := by
  unfold crs
  have e1 : (a - c) * (y - d) = -((c - a) * (y - b) + (c - a) * (b - d)) := by rw [← Int.mul_add, show y - b + (b - d) = y - d by omega, ← Int.neg_mul, show -(c - a) = a - c by omega]
  have e2 : (b - d) * (x - c) = -((d - b) * (x - a) + (d - b) * (a - c)) := by rw [← Int.mul_add, show x - a + (a - c) = x - c by omega, ← Int.neg_mul, show -(d - b) = b - d by omega]
  have e3 : (c - a) * (b - d) = (d - b) * (a - c) := by rw [show c - a = -(a - c) by omega, show d - b = -(b - d) by omega, Int.neg_mul, Int.neg_mul, Int.mul_comm]
  rw [e1, e2, e3]; omega
theorem crC_tr (p : Int × Int) (s : Int × Int × Int × Int) : crC p (trS s) = crC p s := by
  obtain ⟨a, b, c, d⟩ := s
  unfold crC trS
  dsimp only
  rw [crs_flip a b c d]
  have e1 : decide (-crs a b c d p.1 p.2 > 0) = decide (crs a b c d p.1 p.2 < 0) := decide_eq_decide.2 (by omega)
  have e2 : decide (-crs a b c d p.1 p.2 < 0) = decide (crs a b c d p.1 p.2 > 0) := decide_eq_decide.2 (by omega)
  have e3 : decide (b > d) = decide (d < b) := rfl
  have e4 : decide (b < d) = decide (d > b) := rfl
  have e5 : (decide (d > p.2) != decide (b > p.2)) = (decide (b > p.2) != decide (d > p.2)) := by cases decide (d > p.2) <;> cases decide (b > p.2) <;> rfl
  rw [e1, e2, e3, e4, e5]
  congr 1
  exact Bool.or_comm _ _
theorem onS_tr (p : Int × Int) (s : Int × Int × Int × Int) : onS p (trS s) = onS p s := onV_turn _ _ _ _ _ _
/-! ### Turned round -/
def trn : List (Int × Int) → List (Int × Int)
  | [] => []
  | a :: t => a :: t.reverse
theorem trn_len (l : List (Int × Int)) : (trn l).length = l.length := by cases l <;> simp [trn]
theorem rgS_trn (l : List (Int × Int)) : rgS (trn l) = (rgS l).reverse.map trS := by
  cases l with
  | nil => rfl
  | cons a t =>
    show jts (a :: t.reverse ++ [a]) = (jts (a :: t ++ [a])).reverse.map trS
    rw [← jts_rev]
    simp
theorem cycOk_rev {s : List (Int × Int × Int × Int)} (h : CycOk s) : CycOk (s.reverse.map trS) := fun i k u v hu hv hn => by
  have hl : (s.reverse.map trS).length = s.length := by simp
  have hi := (List.getElem?_eq_some_iff.1 hu).1
  have hk := (List.getElem?_eq_some_iff.1 hv).1
  rw [hl] at hi hk ⊢
  rw [List.getElem?_map, List.getElem?_reverse hi, Option.map_eq_some_iff] at hu
  rw [List.getElem?_map, List.getElem?_reverse hk, Option.map_eq_some_iff] at hv
  obtain ⟨u', hu', rfl⟩ := hu
  obtain ⟨v', hv', rfl⟩ := hv
  rw [howS_tr, howS_tr2, h _ _ _ _ hu' hv' (by omega)]
  have e : adjC s.length (s.length - 1 - i) (s.length - 1 - k) ↔ adjC s.length i k := by unfold adjC; omega
  simp only [e]
theorem map_tr_rev (s : List (Int × Int × Int × Int)) : ((s.reverse.map trS).reverse.map trS) = s := by
  rw [List.map_reverse, List.map_map, List.map_reverse, List.reverse_reverse]
  exact List.map_id'' (fun x => rfl) s
theorem isRg_trn (l : List (Int × Int)) : isRg (trn l) = isRg l := by
  rw [Bool.eq_iff_iff, isRg_iff, isRg_iff, trn_len, rgS_trn]
  refine and_congr_right fun _ => and_congr ?_ ?_
  · constructor
    · intro h s hs
      have := h (trS s) (List.mem_map.2 ⟨s, List.mem_reverse.2 hs, rfl⟩)
      rwa [sOk_tr] at this
    · intro h s hs
      obtain ⟨t, ht, rfl⟩ := List.mem_map.1 hs
      rw [sOk_tr]; exact h t (List.mem_reverse.1 ht)
  · constructor
    · intro h
      have := cycOk_rev h
      rwa [map_tr_rev] at this
    · exact cycOk_rev
theorem sum_map_neg {α : Type} (f : α → Int) (l : List α) : (l.map fun x => -f x).sum = -(l.map f).sum := by
  induction l with
  | nil => rfl
  | cons a t ih => simp only [List.map_cons, List.sum_cons, ih]; omega
theorem twA_trn (l : List (Int × Int)) : twA (trn l) = -twA l := by
  unfold twA
  rw [isRg_trn, rgS_trn, List.map_map]
  split
  · rw [← sum_map_neg, List.map_reverse, List.sum_reverse]
    congr 1
    exact List.map_congr_left fun s _ => arS_tr s
  · rfl
theorem inV_trn (l : List (Int × Int)) (p : Int × Int) : inV (trn l) p = inV l p := by
  unfold inV
  rw [isRg_trn, rgS_trn, List.any_map, List.any_reverse, List.countP_map, List.countP_reverse]
  have e1 : (onS p ∘ trS) = onS p := funext fun s => onS_tr p s
  have e2 : (crC p ∘ trS) = crC p := funext fun s => crC_tr p s
  rw [e1, e2]
/-! ### Rotated -/
theorem jts_app (u v : List (Int × Int)) (a : Int × Int) : jts (u ++ a :: v) = jts (u ++ [a]) ++ jts (a :: v) := by
  induction u with
  | nil => rfl
  | cons p t ih =>
    cases t with
    | nil => rfl
    | cons q r =>
      show (p.1, p.2, q.1, q.2) :: jts (q :: r ++ a :: v) = (p.1, p.2, q.1, q.2) :: jts (q :: r ++ [a]) ++ jts (a :: v)
      rw [ih]; rfl
/-- Rotated by one. -/
def rot1 {α : Type} : List α → List α
  | [] => []
  | a :: t => t ++ [a]
theorem rgS_rot1 (l : List (Int × Int)) : rgS (rot1 l) = rot1 (rgS l) := by
  match l with
  | [] => rfl
  | [a] => rfl
  | a :: b :: t =>
    show jts (b :: t ++ [a] ++ [b]) = rot1 (jts (a :: b :: t ++ [a]))
    have e1 : jts (a :: b :: t ++ [a]) = (a.1, a.2, b.1, b.2) :: jts (b :: t ++ [a]) := rfl
    have e2 : b :: t ++ [a] ++ [b] = (b :: t) ++ a :: [b] := by simp
    rw [e1, e2, jts_app]; rfl
theorem rot1_len {α : Type} (l : List α) : (rot1 l).length = l.length := by cases l <;> simp [rot1]
theorem rot1_get {α : Type} {l : List α} {j : Nat} (h : j < l.length) : (rot1 l)[j]? = if j + 1 < l.length then l[j + 1]? else l[0]? := by
  cases l with
  | nil => cases h
  | cons a t =>
    simp only [rot1, List.length_cons] at h ⊢
    split
    · rw [List.getElem?_append_left (by omega)]; simp
    · rw [List.getElem?_append_right (by omega), show j - t.length = 0 by omega]; simp
theorem cycOk_rot1 {s : List (Int × Int × Int × Int)} (h : CycOk s) : CycOk (rot1 s) := fun i k u v hu hv hn => by
  have hi := (List.getElem?_eq_some_iff.1 hu).1
  have hk := (List.getElem?_eq_some_iff.1 hv).1
  rw [rot1_len] at hi hk ⊢
  rw [rot1_get hi] at hu
  rw [rot1_get hk] at hv
  have e : ∀ (i' k' : Nat), (i' = if i + 1 < s.length then i + 1 else 0) → (k' = if k + 1 < s.length then k + 1 else 0) → (adjC s.length i' k' ↔ adjC s.length i k) := fun i' k' hi' hk' => by
    unfold adjC; split at hi' <;> split at hk' <;> omega
  split at hu <;> split at hv
  · rw [h _ _ _ _ hu hv (by omega)]; simp only [e (i + 1) (k + 1) (by rw [if_pos (by assumption)]) (by rw [if_pos (by assumption)])]
  · rw [h _ _ _ _ hu hv (by omega)]; simp only [e (i + 1) 0 (by rw [if_pos (by assumption)]) (by rw [if_neg (by assumption)])]
  · rw [h _ _ _ _ hu hv (by omega)]; simp only [e 0 (k + 1) (by rw [if_neg (by assumption)]) (by rw [if_pos (by assumption)])]
  · omega
theorem mem_rot1 {α : Type} {l : List α} {x : α} : x ∈ rot1 l ↔ x ∈ l := by
  cases l with
  | nil => rfl
  | cons a t => simp [rot1, or_comm]
end Go.Proofs.YtkeljibnjpinlaaDoor

/- A ring like those that are drawn has an area. -/
namespace Go.Proofs.YtkeljibnjpinlaaDoor
set_option linter.unusedVariables false

theorem crs_cyc (a b c d x y : Int) : crs a b c d x y = crs c d x y a b := by unfold crs; grind
/-- Each one's ends lie on both sides of the other: they meet. -/
theorem how_meet {a b c d p q r s : Int} (hs : isS a b c d = true) (ht : isS p q r s = true) (hx : ¬ Apart a b c d p q r s) (h1 : Opp (crs a b c d p q) (crs a b c d r s)) (h2 : Opp (crs p q r s a b) (crs p q r s c d)) : howV a b c d p q r s ≠ 0 := by
  obtain ⟨g1, g2, g3, g4⟩ := signs hs ht
  obtain ⟨-, -, k1⟩ := isS_at hs
  obtain ⟨-, -, k2⟩ := isS_at ht
  unfold howV
  rw [if_pos ⟨hs, ht⟩, if_neg hx, g1, g2, g3, g4]
  by_cases hf : crs a b c d p q = 0 ∧ crs a b c d r s = 0
  · rw [if_pos ⟨sg_zero.2 hf.1, sg_zero.2 hf.2⟩]; split <;> decide
  · rw [if_neg (fun h => hf ⟨sg_zero.1 h.1, sg_zero.1 h.2⟩)]
    have hu : ¬ (crs p q r s a b = 0 ∧ crs p q r s c d = 0) := fun h => hf (cross_zero k2 h.1 h.2)
    have n1 := (opp_sg hf).1 h1
    have n2 := (opp_sg hu).1 h2
    unfold markV
    rw [if_neg (fun h => h.elim n1 n2)]
    split <;> decide
/-- A segment from P. -/
theorem how_from {X Y c d p q r s : Int} (hs : isS X Y c d = true) (ht : isS p q r s = true) (hx : ¬ Apart X Y c d p q r s) (h1 : Opp (crs c d p q X Y) (crs c d r s X Y)) (h2 : Opp (crs p q r s X Y) (crs p q r s c d)) : howV X Y c d p q r s ≠ 0 :=
  how_meet hs ht hx (by rw [crs_cyc X Y c d p q, crs_cyc X Y c d r s]; exact h1) h2
/-- Two of a ring that are no neighbours. -/
theorem rg_apart {l : List (Int × Int)} (h : isRg l = true) {i k : Nat} {u v : Int × Int × Int × Int} (hu : (rgS l)[i]? = some u) (hv : (rgS l)[k]? = some v) (hn : i ≠ k) (ha : ¬ adjC (rgS l).length i k) : howS u v = 0 := by
  rw [((isRg_iff l).1 h).2.2 i k u v hu hv hn, if_neg ha]
theorem rg_touch {l : List (Int × Int)} (h : isRg l = true) {i k : Nat} {u v : Int × Int × Int × Int} (hu : (rgS l)[i]? = some u) (hv : (rgS l)[k]? = some v) (hn : i ≠ k) (ha : adjC (rgS l).length i k) : howS u v = 1 := by
  rw [((isRg_iff l).1 h).2.2 i k u v hu hv hn, if_pos ha]
theorem rg_seg {l : List (Int × Int)} (h : isRg l = true) {i : Nat} {u : Int × Int × Int × Int} (hu : (rgS l)[i]? = some u) : sOk u = true := ((isRg_iff l).1 h).2.1 u (List.mem_of_getElem? hu)
theorem twA_nz {l : List (Int × Int)} {z : Int} (h : isRg l = true) (hz : ((rgS l).map arS).sum = z) (h0 : z ≠ 0) : twA l ≠ 0 := by
  unfold twA; rw [if_pos h, hz]; exact h0
set_option maxHeartbeats 16000000 in
/-- The square, one corner anywhere. -/
theorem nz_sq {x y w h X Y : Int} (hw : 2 ≤ w ∧ w ≤ 7) (hh : 2 ≤ h ∧ h ≤ 7) (hr : isRg [(X, Y), (x + w, y), (x + w, y + h), (x, y + h)] = true) : twA [(X, Y), (x + w, y), (x + w, y + h), (x, y + h)] ≠ 0 := by
  refine twA_nz hr (z := 2 * (w * h) - w * (Y - y) - h * (X - x)) (by simp [rgS, jts, arS]; grind) fun h0 => ?_
  have p1 : howV X Y (x + w) y (x + w) (y + h) x (y + h) = 0 := rg_apart hr (i := 0) (k := 2) (u := (X, Y, x + w, y)) (v := (x + w, y + h, x, y + h)) rfl rfl (by decide) (by rw [rgS_len]; simp [adjC])
  have p2 : howV x (y + h) X Y (x + w) y (x + w) (y + h) = 0 := rg_apart hr (i := 3) (k := 1) (u := (x, y + h, X, Y)) (v := (x + w, y, x + w, y + h)) rfl rfl (by decide) (by rw [rgS_len]; simp [adjC])
  have s0 : isS X Y (x + w) y = true := rg_seg hr (i := 0) rfl
  have s1 : isS (x + w) y (x + w) (y + h) = true := rg_seg hr (i := 1) rfl
  have s2 : isS (x + w) (y + h) x (y + h) = true := rg_seg hr (i := 2) rfl
  have s3 : isS X Y x (y + h) = true := by rw [isS_turn]; exact rg_seg hr (i := 3) rfl
  rw [how_turn] at p2
  have key : (X ≤ x + w ∧ y + h ≤ Y) ∨ (x + w ≤ X ∧ Y ≤ y + h) := by
    obtain ⟨hw1, hw2⟩ := hw; obtain ⟨hh1, hh2⟩ := hh
    have e1 : w = 2 ∨ w = 3 ∨ w = 4 ∨ w = 5 ∨ w = 6 ∨ w = 7 := by omega
    have e2 : h = 2 ∨ h = 3 ∨ h = 4 ∨ h = 5 ∨ h = 6 ∨ h = 7 := by omega
    rcases e1 with rfl | rfl | rfl | rfl | rfl | rfl <;> rcases e2 with rfl | rfl | rfl | rfl | rfl | rfl <;> omega
  have e1 : w = 2 ∨ w = 3 ∨ w = 4 ∨ w = 5 ∨ w = 6 ∨ w = 7 := by omega
  have e2 : h = 2 ∨ h = 3 ∨ h = 4 ∨ h = 5 ∨ h = 6 ∨ h = 7 := by omega
  clear hr hw hh
  rcases e1 with rfl | rfl | rfl | rfl | rfl | rfl <;> rcases e2 with rfl | rfl | rfl | rfl | rfl | rfl <;>
    (rcases key with ⟨hk1, hk2⟩ | ⟨hk1, hk2⟩
     · exact how_from s0 s2 (by unfold Apart; omega) (by unfold Opp crs; omega) (by unfold Opp crs; omega) p1
     · exact how_from s3 s1 (by unfold Apart; omega) (by unfold Opp crs; omega) (by unfold Opp crs; omega) p2)
end Go.Proofs.YtkeljibnjpinlaaDoor

/- The hexagon has an area. -/
namespace Go.Proofs.YtkeljibnjpinlaaDoor
set_option linter.unusedVariables false

set_option maxHeartbeats 32000000 in
/-- The hexagon, one corner anywhere. -/
theorem nz_hex {x y w h X Y : Int} (hw : 2 ≤ w ∧ w ≤ 7) (hh : 2 ≤ h ∧ h ≤ 7) (hr : isRg [(X, Y), (x + 2 * w, y), (x + 2 * w, y + h), (x + w, y + h), (x + w, y + 2 * h), (x, y + 2 * h)] = true) : twA [(X, Y), (x + 2 * w, y), (x + 2 * w, y + h), (x + w, y + h), (x + w, y + 2 * h), (x, y + 2 * h)] ≠ 0 := by
  refine twA_nz hr (z := 6 * (w * h) - 2 * (w * (Y - y)) - 2 * (h * (X - x))) (by simp [rgS, jts, arS]; grind) fun h0 => ?_
  have p1 : howV X Y (x + 2 * w) y (x + w) (y + 2 * h) x (y + 2 * h) = 0 := rg_apart hr (i := 0) (k := 4) (u := (X, Y, x + 2 * w, y)) (v := (x + w, y + 2 * h, x, y + 2 * h)) rfl rfl (by decide) (by rw [rgS_len]; simp [adjC])
  have p2 : howV x (y + 2 * h) X Y (x + w) (y + h) (x + w) (y + 2 * h) = 0 := rg_apart hr (i := 5) (k := 3) (u := (x, y + 2 * h, X, Y)) (v := (x + w, y + h, x + w, y + 2 * h)) rfl rfl (by decide) (by rw [rgS_len]; simp [adjC])
  have p3 : howV x (y + 2 * h) X Y (x + 2 * w) y (x + 2 * w) (y + h) = 0 := rg_apart hr (i := 5) (k := 1) (u := (x, y + 2 * h, X, Y)) (v := (x + 2 * w, y, x + 2 * w, y + h)) rfl rfl (by decide) (by rw [rgS_len]; simp [adjC])
  have s0 : isS X Y (x + 2 * w) y = true := rg_seg hr (i := 0) rfl
  have s1 : isS (x + 2 * w) y (x + 2 * w) (y + h) = true := rg_seg hr (i := 1) rfl
  have s3 : isS (x + w) (y + h) (x + w) (y + 2 * h) = true := rg_seg hr (i := 3) rfl
  have s4 : isS (x + w) (y + 2 * h) x (y + 2 * h) = true := rg_seg hr (i := 4) rfl
  have s5 : isS X Y x (y + 2 * h) = true := by rw [isS_turn]; exact rg_seg hr (i := 5) rfl
  rw [how_turn] at p2 p3
  have key : (X ≤ x + w ∧ y + 2 * h ≤ Y) ∨ ((x + w ≤ X ∧ X ≤ x + 2 * w) ∧ (y + h ≤ Y ∧ Y ≤ y + 2 * h)) ∨ (x + 2 * w ≤ X ∧ Y ≤ y + h) := by
    obtain ⟨hw1, hw2⟩ := hw; obtain ⟨hh1, hh2⟩ := hh
    have e1 : w = 2 ∨ w = 3 ∨ w = 4 ∨ w = 5 ∨ w = 6 ∨ w = 7 := by omega
    have e2 : h = 2 ∨ h = 3 ∨ h = 4 ∨ h = 5 ∨ h = 6 ∨ h = 7 := by omega
    rcases e1 with rfl | rfl | rfl | rfl | rfl | rfl <;> rcases e2 with rfl | rfl | rfl | rfl | rfl | rfl <;> omega
  have e1 : w = 2 ∨ w = 3 ∨ w = 4 ∨ w = 5 ∨ w = 6 ∨ w = 7 := by omega
  have e2 : h = 2 ∨ h = 3 ∨ h = 4 ∨ h = 5 ∨ h = 6 ∨ h = 7 := by omega
  clear hr hw hh
  rcases e1 with rfl | rfl | rfl | rfl | rfl | rfl <;> rcases e2 with rfl | rfl | rfl | rfl | rfl | rfl <;>
    (rcases key with ⟨hk1, hk2⟩ | ⟨⟨hk1, hk2⟩, hk3, hk4⟩ | ⟨hk1, hk2⟩
     · exact how_from s0 s4 (by unfold Apart; omega) (by unfold Opp crs; omega) (by unfold Opp crs; omega) p1
     · exact how_from s5 s3 (by unfold Apart; omega) (by unfold Opp crs; omega) (by unfold Opp crs; omega) p2
     · exact how_from s5 s1 (by unfold Apart; omega) (by unfold Opp crs; omega) (by unfold Opp crs; omega) p3)
end Go.Proofs.YtkeljibnjpinlaaDoor

/- Darts, triangles, and the shapes with two corners swapped have an area if they are rings. -/
namespace Go.Proofs.YtkeljibnjpinlaaDoor
set_option linter.unusedVariables false

set_option maxHeartbeats 32000000 in
/-- The dart, one corner anywhere. -/
theorem nz_dart {x y w h X Y : Int} (hw : 2 ≤ w ∧ w ≤ 7) (hh : 2 ≤ h ∧ h ≤ 7) (hr : isRg [(X, Y), (x + w, y + 1), (x + 2 * w, y), (x + w, y + h)] = true) : twA [(X, Y), (x + w, y + 1), (x + 2 * w, y), (x + w, y + h)] ≠ 0 := by
  refine twA_nz hr (z := (h - 1) * (2 * w - (X - x))) (by simp [rgS, jts, arS]; grind) fun h0 => ?_
  have p1 : howV X Y (x + w) (y + 1) (x + 2 * w) y (x + w) (y + h) = 0 := rg_apart hr (i := 0) (k := 2) (u := (X, Y, x + w, y + 1)) (v := (x + 2 * w, y, x + w, y + h)) rfl rfl (by decide) (by rw [rgS_len]; simp [adjC])
  have p2 : howV (x + w) (y + h) X Y (x + w) (y + 1) (x + 2 * w) y = 0 := rg_apart hr (i := 3) (k := 1) (u := (x + w, y + h, X, Y)) (v := (x + w, y + 1, x + 2 * w, y)) rfl rfl (by decide) (by rw [rgS_len]; simp [adjC])
  have s0 : isS X Y (x + w) (y + 1) = true := rg_seg hr (i := 0) rfl
  have s1 : isS (x + w) (y + 1) (x + 2 * w) y = true := rg_seg hr (i := 1) rfl
  have s2 : isS (x + 2 * w) y (x + w) (y + h) = true := rg_seg hr (i := 2) rfl
  have s3 : isS X Y (x + w) (y + h) = true := by rw [isS_turn]; exact rg_seg hr (i := 3) rfl
  rw [how_turn] at p2
  have hX : X = x + 2 * w := by
    rcases Int.mul_eq_zero.1 h0 with k | k <;> omega
  subst hX
  have e1 : w = 2 ∨ w = 3 ∨ w = 4 ∨ w = 5 ∨ w = 6 ∨ w = 7 := by omega
  have e2 : h = 2 ∨ h = 3 ∨ h = 4 ∨ h = 5 ∨ h = 6 ∨ h = 7 := by omega
  clear hr hw hh h0
  rcases Int.le_total y Y with hk | hk
  · clear p2
    rcases e1 with rfl | rfl | rfl | rfl | rfl | rfl <;> rcases e2 with rfl | rfl | rfl | rfl | rfl | rfl <;>
      exact how_from s0 s2 (by unfold Apart; omega) (by unfold Opp crs; omega) (by unfold Opp crs; omega) p1
  · clear p1
    rcases e1 with rfl | rfl | rfl | rfl | rfl | rfl <;> rcases e2 with rfl | rfl | rfl | rfl | rfl | rfl <;>
      exact how_from s3 s1 (by unfold Apart; omega) (by unfold Opp crs; omega) (by unfold Opp crs; omega) p2
/-- Two segments of one line that touch. -/
theorem how_spot {a b c d p q r s : Int} (hs : isS a b c d = true) (ht : isS p q r s = true) (h1 : crs a b c d p q = 0) (h2 : crs a b c d r s = 0) (h : howV a b c d p q r s = 1) : Spot a b c d p q r s := by
  obtain ⟨g1, g2, -, -⟩ := signs hs ht
  unfold howV at h
  rw [if_pos ⟨hs, ht⟩, g1, g2, h1, h2] at h
  by_cases hx : Apart a b c d p q r s
  · rw [if_pos hx] at h; cases h
  · rw [if_neg hx, if_pos ⟨sg_zero.2 rfl, sg_zero.2 rfl⟩] at h
    by_cases hp : Spot a b c d p q r s
    · exact hp
    · rw [if_neg hp] at h; cases h
/-- The triangle, one corner anywhere. -/
theorem nz_tri {x y w h X Y : Int} (hw : 2 ≤ w ∧ w ≤ 7) (hh : 2 ≤ h ∧ h ≤ 7) (hr : isRg [(X, Y), (x + w, y), (x, y + h)] = true) : twA [(X, Y), (x + w, y), (x, y + h)] ≠ 0 := by
  refine twA_nz hr (z := w * h - w * (Y - y) - h * (X - x)) (by simp [rgS, jts, arS]; grind) fun h0 => ?_
  have t1 : howV X Y (x + w) y (x + w) y x (y + h) = 1 := rg_touch hr (i := 0) (k := 1) (u := (X, Y, x + w, y)) (v := (x + w, y, x, y + h)) rfl rfl (by decide) (by rw [rgS_len]; simp [adjC])
  have t2 : howV (x + w) y x (y + h) x (y + h) X Y = 1 := rg_touch hr (i := 1) (k := 2) (u := (x + w, y, x, y + h)) (v := (x, y + h, X, Y)) rfl rfl (by decide) (by rw [rgS_len]; simp [adjC])
  have s0 : isS X Y (x + w) y = true := rg_seg hr (i := 0) rfl
  have s1 : isS (x + w) y x (y + h) = true := rg_seg hr (i := 1) rfl
  have s2 : isS x (y + h) X Y = true := rg_seg hr (i := 2) rfl
  have q1 := how_spot s0 s1 (by unfold crs; grind) (by unfold crs; grind) t1
  have q2 := how_spot s1 s2 (by unfold crs; grind) (by unfold crs; grind) t2
  unfold Spot at q1 q2
  omega
/-- Swapped: a square's segments cross. -/
theorem sw_sq {x y w h : Int} (hw : 2 ≤ w ∧ w ≤ 7) (hh : 2 ≤ h ∧ h ≤ 7) (hr : isRg [(x + w, y), (x, y), (x + w, y + h), (x, y + h)] = true) : twA [(x + w, y), (x, y), (x + w, y + h), (x, y + h)] ≠ 0 := by
  exfalso
  have p1 : howV x y (x + w) (y + h) x (y + h) (x + w) y = 0 := rg_apart hr (i := 1) (k := 3) (u := (x, y, x + w, y + h)) (v := (x, y + h, x + w, y)) rfl rfl (by decide) (by rw [rgS_len]; simp [adjC])
  have s1 : isS x y (x + w) (y + h) = true := rg_seg hr (i := 1) rfl
  have s3 : isS x (y + h) (x + w) y = true := rg_seg hr (i := 3) rfl
  have hp : 0 < w * h := Int.mul_pos (by omega) (by omega)
  have c1 : crs x y (x + w) (y + h) x (y + h) = w * h := by unfold crs; grind
  have c2 : crs x y (x + w) (y + h) (x + w) y = -(w * h) := by unfold crs; grind
  have c3 : crs x (y + h) (x + w) y x y = -(w * h) := by unfold crs; grind
  have c4 : crs x (y + h) (x + w) y (x + w) (y + h) = w * h := by unfold crs; grind
  exact how_meet s1 s3 (by unfold Apart; omega) (by rw [c1, c2]; unfold Opp; omega) (by rw [c3, c4]; unfold Opp; omega) p1
/-- Swapped: a triangle keeps an area. -/
theorem sw_tri {x y w h : Int} (hw : 2 ≤ w ∧ w ≤ 7) (hh : 2 ≤ h ∧ h ≤ 7) (hr : isRg [(x + w, y), (x, y), (x, y + h)] = true) : twA [(x + w, y), (x, y), (x, y + h)] ≠ 0 := by
  have hp : 0 < w * h := Int.mul_pos (by omega) (by omega)
  exact twA_nz hr (z := -(w * h)) (by simp [rgS, jts, arS]; grind) (by omega)
/-- Swapped: a dart keeps an area. -/
theorem sw_dart {x y w h : Int} (hw : 2 ≤ w ∧ w ≤ 7) (hh : 2 ≤ h ∧ h ≤ 7) (hr : isRg [(x + w, y + 1), (x, y), (x + 2 * w, y), (x + w, y + h)] = true) : twA [(x + w, y + 1), (x, y), (x + 2 * w, y), (x + w, y + h)] ≠ 0 := by
  have hp : 0 < w * (h + 1) := Int.mul_pos (by omega) (by omega)
  exact twA_nz hr (z := w * (h + 1)) (by simp [rgS, jts, arS]; grind) (by omega)
/-- Swapped: a hexagon's segments touch. -/
theorem sw_hex {x y w h : Int} (hw : 2 ≤ w ∧ w ≤ 7) (hh : 2 ≤ h ∧ h ≤ 7) (hr : isRg [(x + 2 * w, y), (x, y), (x + 2 * w, y + h), (x + w, y + h), (x + w, y + 2 * h), (x, y + 2 * h)] = true) : twA [(x + 2 * w, y), (x, y), (x + 2 * w, y + h), (x + w, y + h), (x + w, y + 2 * h), (x, y + 2 * h)] ≠ 0 := by
  exfalso
  have p1 : howV x (y + 2 * h) (x + 2 * w) y (x + 2 * w) (y + h) (x + w) (y + h) = 0 := rg_apart hr (i := 5) (k := 2) (u := (x, y + 2 * h, x + 2 * w, y)) (v := (x + 2 * w, y + h, x + w, y + h)) rfl rfl (by decide) (by rw [rgS_len]; simp [adjC])
  have s5 : isS x (y + 2 * h) (x + 2 * w) y = true := rg_seg hr (i := 5) rfl
  have s2 : isS (x + 2 * w) (y + h) (x + w) (y + h) = true := rg_seg hr (i := 2) rfl
  have hp : 0 < w * h := Int.mul_pos (by omega) (by omega)
  have c2 : crs x (y + 2 * h) (x + 2 * w) y (x + w) (y + h) = 0 := by unfold crs; grind
  have c3 : crs (x + 2 * w) (y + h) (x + w) (y + h) x (y + 2 * h) = -(w * h) := by unfold crs; grind
  have c4 : crs (x + 2 * w) (y + h) (x + w) (y + h) (x + 2 * w) y = w * h := by unfold crs; grind
  exact how_meet s5 s2 (by unfold Apart; omega) (by rw [c2]; unfold Opp; omega) (by rw [c3, c4]; unfold Opp; omega) p1
end Go.Proofs.YtkeljibnjpinlaaDoor

/- Rings by values: rotated, their corners are inside; the drawn shapes have an area if they are rings. -/
namespace Go.Proofs.YtkeljibnjpinlaaDoor
open Go.RowKit
set_option linter.unusedVariables false

/-- Rotated by one, n times. -/
def rotN {α : Type} : Nat → List α → List α
  | 0, l => l
  | n + 1, l => rotN n (rot1 l)
theorem rotN_eq {α : Type} : ∀ (n : Nat) (l : List α), n ≤ l.length → rotN n l = l.drop n ++ l.take n
  | 0, l, _ => by simp [rotN]
  | n + 1, [], h => by simp at h
  | n + 1, a :: t, h => by
    have hn : n ≤ t.length := by simpa using h
    rw [rotN, rotN_eq n _ (by rw [rot1_len]; simp; omega)]
    simp only [rot1, List.drop_succ_cons, List.take_succ_cons]
    rw [List.drop_append_of_le_length hn, List.take_append_of_le_length hn]
    simp
theorem isRg_rot1 {l : List (Int × Int)} (h : isRg l = true) : isRg (rot1 l) = true := by
  rw [isRg_iff] at h ⊢
  rw [rot1_len, rgS_rot1]
  exact ⟨h.1, fun s hs => h.2.1 s (mem_rot1.1 hs), cycOk_rot1 h.2.2⟩
theorem isRg_rotN : ∀ (n : Nat) (l : List (Int × Int)), isRg l = true → isRg (rotN n l) = true
  | 0, _, h => h
  | n + 1, l, h => isRg_rotN n _ (isRg_rot1 h)
theorem sum_rot1 {α : Type} (f : α → Int) (l : List α) : ((rot1 l).map f).sum = (l.map f).sum := by
  cases l with
  | nil => rfl
  | cons a t => simp [rot1, Int.add_comm]
theorem sum_rotN : ∀ (n : Nat) (l : List (Int × Int)), ((rgS (rotN n l)).map arS).sum = ((rgS l).map arS).sum
  | 0, _ => rfl
  | n + 1, l => by rw [rotN, sum_rotN n, rgS_rot1, sum_rot1]
theorem isRg_cut (l : List (Int × Int)) {j : Nat} (hj : j ≤ l.length) : isRg (l.drop j ++ l.take j) = isRg l := by
  rw [Bool.eq_iff_iff]
  constructor
  · intro h
    have hl : (l.drop j ++ l.take j).length = l.length := by simp; omega
    have := isRg_rotN (l.length - j) _ h
    rw [rotN_eq _ _ (by rw [hl]; omega)] at this
    have hd : (l.drop j).length = l.length - j := by simp
    rwa [List.drop_append_of_le_length (by omega), List.take_append_of_le_length (by omega), ← hd, List.drop_length, List.take_length, List.nil_append, List.take_append_drop] at this
  · intro h
    have := isRg_rotN j l h
    rwa [rotN_eq _ _ hj] at this
theorem twA_cut (l : List (Int × Int)) {j : Nat} (hj : j ≤ l.length) : twA (l.drop j ++ l.take j) = twA l := by
  unfold twA
  rw [isRg_cut l hj, ← rotN_eq j l hj, sum_rotN]
/-- What is inside is a point of the map. -/
theorem inV_isP {l : List (Int × Int)} {p : Int × Int} (h : inV l p = true) : isP p.1 p.2 = true := by
  unfold inV at h
  simp only [Bool.and_eq_true] at h
  exact h.1.2
/-- A corner is inside. -/
theorem inV_corner {l : List (Int × Int)} (h : isRg l = true) {i : Nat} {x y : Int} (hi : l[i]? = some (x, y)) : inV l (x, y) = true := by
  have hil := (List.getElem?_eq_some_iff.1 hi).1
  obtain ⟨⟨c, d⟩, hq⟩ : ∃ q, l[(i + 1) % l.length]? = some q := ⟨_, List.getElem?_eq_getElem (Nat.mod_lt _ (by omega))⟩
  have hs := rgS_get hi hq
  have hok := rg_seg h hs
  obtain ⟨h1, -, -⟩ := isS_at hok
  have hp : isP x y = true := isP_of h1.1 h1.2.1 h1.2.2.1 h1.2.2.2
  have hon : onS (x, y) (x, y, c, d) = true := (on_ends hok).1
  unfold inV
  rw [h, hp, Bool.true_and, Bool.true_and]
  rw [Bool.or_eq_true]
  exact .inl (List.any_eq_true.2 ⟨_, List.mem_of_getElem? hs, hon⟩)
/-- If it is a ring, then it has an area. -/
def Fine (l : List (Int × Int)) : Prop := isRg l = true → twA l ≠ 0
theorem fine_short {l : List (Int × Int)} (h : l.length < 3) : Fine l := fun hr => by
  have := ((isRg_iff l).1 hr).1; omega
/-- The shapes that are drawn. -/
def ShP (l : List (Int × Int)) : Prop := ∃ x y w h : Int, (2 ≤ w ∧ w ≤ 7) ∧ (2 ≤ h ∧ h ≤ 7) ∧
  (l = [(x, y), (x + w, y), (x + w, y + h), (x, y + h)] ∨ l = [(x, y), (x + w, y), (x, y + h)] ∨
   l = [(x, y), (x + 2 * w, y), (x + 2 * w, y + h), (x + w, y + h), (x + w, y + 2 * h), (x, y + 2 * h)] ∨ l = [(x, y), (x + w, y + 1), (x + 2 * w, y), (x + w, y + h)])
theorem ShP.len {l : List (Int × Int)} (h : ShP l) : 3 ≤ l.length ∧ l.length ≤ 6 := by
  obtain ⟨x, y, w, h, -, -, rfl | rfl | rfl | rfl⟩ := h <;> simp
theorem ShP.head {l : List (Int × Int)} (h : ShP l) (X Y : Int) : Fine (l.set 0 (X, Y)) := by
  obtain ⟨x, y, w, h, hw, hh, rfl | rfl | rfl | rfl⟩ := h
  · exact fun hr => nz_sq hw hh hr
  · exact fun hr => nz_tri hw hh hr
  · exact fun hr => nz_hex hw hh hr
  · exact fun hr => nz_dart hw hh hr
theorem ShP.fine {l : List (Int × Int)} (h : ShP l) : Fine l := by
  obtain ⟨x, y, w, h, hw, hh, rfl | rfl | rfl | rfl⟩ := h
  · exact fun hr => nz_sq hw hh hr
  · exact fun hr => nz_tri hw hh hr
  · exact fun hr => nz_hex hw hh hr
  · exact fun hr => nz_dart hw hh hr
theorem ShP.swap {a b : Int × Int} {t : List (Int × Int)} (h : ShP (a :: b :: t)) : Fine (b :: a :: t) := by
  obtain ⟨x, y, w, h, hw, hh, e | e | e | e⟩ := h <;> (simp only [List.cons.injEq] at e; obtain ⟨rfl, rfl, rfl⟩ := e)
  · exact fun hr => sw_sq hw hh hr
  · exact fun hr => sw_tri hw hh hr
  · exact fun hr => sw_hex hw hh hr
  · exact fun hr => sw_dart hw hh hr
end Go.Proofs.YtkeljibnjpinlaaDoor

/- append of points and of segments as one step of a drawn region. -/
namespace Go.Proofs.YtkeljibnjpinlaaDoor
open Go.ChangeShapes Go.WideShapes Go.ChangeAt Go.RowKit
set_option linter.unusedVariables false

theorem stepPt (w : World) {o : Oper} {a : Act} {K : Act → World → Prop} {Q : Exit → Act → World → Prop} (s x : Operand)
    (ho : o.op = .call { callee := .builtin .append, args := #[s, x], argTypes := #[24, 24] })
    (base : Nat) (v : Value) (l : List (Int × Int)) (hv : a.eval s = v) (hown : OwnE 2 encPoint w base 33 v l)
    (B : Nat) (A : Option Addr) (m c : Nat) (l2 : List (Int × Int)) (hx : a.eval x = .slice A m c) (hm : m = l2.length) (hs : SeesE 2 encPoint w B A l2) (h63 : l.length + l2.length ≤ 1099511627776) (hbase : base ≤ w.heap.size)
    (h : ∀ A' c' L w', Hid (L = l ++ l2) → L.length ≤ l.length + l2.length → l.length + l2.length ≤ L.length → OwnE 2 encPoint w' base 33 (.slice A' L.length c') L → Below base w w' → K (a.put o.dst (.slice A' L.length c')) w') :
    o.wp Tryd.prog a w K Q := by
  obtain ⟨i, hi, hz, h1, h2⟩ := info_parts infoPoint
  exact wp_appE w elPoint s x _ ho _ i _ 16 Tryd.underlying24 hi hz h1 h2 rfl base v l hv hown B A m c l2 hx hm hs h63 (by decide) hbase h
theorem stepSg (w : World) {o : Oper} {a : Act} {K : Act → World → Prop} {Q : Exit → Act → World → Prop} (s x : Operand)
    (ho : o.op = .call { callee := .builtin .append, args := #[s, x], argTypes := #[38, 38] })
    (base : Nat) (v : Value) (l : List (Int × Int × Int × Int)) (hv : a.eval s = v) (hown : OwnE 4 encSegment w base 60 v l)
    (B : Nat) (A : Option Addr) (m c : Nat) (l2 : List (Int × Int × Int × Int)) (hx : a.eval x = .slice A m c) (hm : m = l2.length) (hs : SeesE 4 encSegment w B A l2) (h63 : l.length + l2.length ≤ 1099511627776) (hbase : base ≤ w.heap.size)
    (h : ∀ A' c' L w', Hid (L = l ++ l2) → L.length ≤ l.length + l2.length → l.length + l2.length ≤ L.length → OwnE 4 encSegment w' base 60 (.slice A' L.length c') L → Below base w w' → K (a.put o.dst (.slice A' L.length c')) w') :
    o.wp Tryd.prog a w K Q := by
  obtain ⟨i, hi, hz, h1, h2⟩ := info_parts infoSegment
  exact wp_appE w elSegment s x _ ho _ i _ 32 Tryd.underlying38 hi hz h1 h2 rfl base v l hv hown B A m c l2 hx hm hs h63 (by decide) hbase h
end Go.Proofs.YtkeljibnjpinlaaDoor
