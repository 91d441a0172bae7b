/- Simpler lines: values. -/
import Derived.Test.YtbnjaaegbmhopaaSeg
import Derived.Test.YtbnjaaegbmhopaaLine
namespace Go.Proofs.Ytbnjaaegbmhopaa
set_option linter.unusedVariables false

/-- The square of the distance of a point from a segment, as a fraction. -/
def crsD (a b c d x y : Int) : Int := (c - a) * (y - b) - (d - b) * (x - a)
def lngD (a b c d : Int) : Int := (c - a) * (c - a) + (d - b) * (d - b)
def atD (a b c d x y : Int) : Int := (x - a) * (c - a) + (y - b) * (d - b)
def sqD (a b x y : Int) : Int := (a - x) * (a - x) + (b - y) * (b - y)
def farD (a b c d x y : Int) : Int × Int :=
  if atD a b c d x y ≤ 0 then (sqD a b x y, 1) else if lngD a b c d ≤ atD a b c d x y then (sqD c d x y, 1) else (crsD a b c d x y * crsD a b c d x y, lngD a b c d)
def nearD (f : Int × Int) (n : Int) : Bool := decide (f.1 ≤ n * n * f.2)
def nearV (a b c d x y n : Int) : Bool := isS a b c d && (isP x y && (inB n 0 200 && nearD (farD a b c d x y) n))
theorem far_den {a b c d x y : Int} : 1 ≤ (farD a b c d x y).2 := by
  unfold farD
  split
  · exact Int.le_refl 1
  · split
    · exact Int.le_refl 1
    · next h1 h2 => dsimp only; omega
theorem mul_mono_sq {n m d : Int} (h0 : 0 ≤ n) (h : n ≤ m) (hd : 0 ≤ d) : n * n * d ≤ m * m * d :=
  Int.mul_le_mul_of_nonneg_right (Int.mul_le_mul h h h0 (by omega)) hd
/-- What is near stays near when more is allowed. -/
theorem nearV_mono {a b c d x y n m : Int} (h : nearV a b c d x y n = true) (hm : n ≤ m) (h2 : m ≤ 200) : nearV a b c d x y m = true := by
  simp only [nearV, nearD, inB, Bool.and_eq_true, decide_eq_true_eq] at h ⊢
  have h1 := far_den (a := a) (b := b) (c := c) (d := d) (x := x) (y := y)
  exact ⟨h.1, h.2.1, by omega, Int.le_trans h.2.2.2 (mul_mono_sq (by omega) hm (by omega))⟩
/-- The point of a place. -/
def ptA (l : List (Int × Int)) (i : Nat) : Int × Int := l.getD i (0, 0)
theorem ptA_get {l : List (Int × Int)} {i : Nat} {p : Int × Int} (h : l[i]? = some p) : ptA l i = p := by simp [ptA, List.getD, h]
def farJ (l : List (Int × Int)) (i k j : Nat) : Int × Int := farD (ptA l i).1 (ptA l i).2 (ptA l k).1 (ptA l k).2 (ptA l j).1 (ptA l j).2
/-- The farthest of the points behind i, the first t of them looked at: its place (-1: none is too far), its distance. -/
def bestS (l : List (Int × Int)) (n : Int) (i k : Nat) : Nat → Int × Int × Int
  | 0 => (-1, 0, 1)
  | t + 1 => if nearD (farJ l i k (i + 1 + t)) n = false ∧ ((bestS l n i k t).1 < 0 ∨ (bestS l n i k t).2.1 * (farJ l i k (i + 1 + t)).2 < (farJ l i k (i + 1 + t)).1 * (bestS l n i k t).2.2)
      then (((i + 1 + t : Nat) : Int), (farJ l i k (i + 1 + t)).1, (farJ l i k (i + 1 + t)).2) else bestS l n i k t
def bestV (l : List (Int × Int)) (n : Int) (i k : Nat) : Int := (bestS l n i k (k - (i + 1))).1
theorem bestS_range (l : List (Int × Int)) (n : Int) (i k : Nat) : ∀ t, (bestS l n i k t).1 = -1 ∨ ((i : Int) < (bestS l n i k t).1 ∧ (bestS l n i k t).1 ≤ ((i + t : Nat) : Int))
  | 0 => .inl rfl
  | t + 1 => by
    have := bestS_range l n i k t
    unfold bestS
    split
    · right; dsimp only; omega
    · omega
theorem bestV_range {l : List (Int × Int)} {n : Int} {i k : Nat} (h : 0 ≤ bestV l n i k) : (i : Int) < bestV l n i k ∧ bestV l n i k < (k : Int) := by
  have := bestS_range l n i k (k - (i + 1))
  unfold bestV at h ⊢
  omega
theorem bestS_none {l : List (Int × Int)} {n : Int} {i k : Nat} : ∀ {t : Nat}, (bestS l n i k t).1 < 0 → ∀ j, j < t → nearD (farJ l i k (i + 1 + j)) n = true
  | 0, _, j, hj => by omega
  | t + 1, h, j, hj => by
    unfold bestS at h
    split at h
    · dsimp only at h; omega
    · next hn =>
      by_cases e : j = t
      · subst e
        cases hq : nearD (farJ l i k (i + 1 + j)) n
        · exact absurd ⟨hq, .inl h⟩ hn
        · rfl
      · exact bestS_none h j (by omega)
theorem bestV_none {l : List (Int × Int)} {n : Int} {i k : Nat} (h : bestV l n i k < 0) {j : Nat} (h1 : i < j) (h2 : j < k) : nearD (farJ l i k j) n = true := by
  have := bestS_none h (j - (i + 1)) (by omega)
  rwa [show i + 1 + (j - (i + 1)) = j by omega] at this
/-- What is kept between two kept ones. -/
inductive Kept (l : List (Int × Int)) (n : Int) : Nat → Nat → Nat → Prop
  | here {i k b : Nat} (h : bestV l n i k = (b : Int)) : Kept l n i k b
  | left {i k b j : Nat} (h : bestV l n i k = (b : Int)) (hj : Kept l n i b j) : Kept l n i k j
  | right {i k b j : Nat} (h : bestV l n i k = (b : Int)) (hj : Kept l n b k j) : Kept l n i k j
theorem Kept.between {l : List (Int × Int)} {n : Int} {i k j : Nat} (h : Kept l n i k j) : i < j ∧ j < k := by
  induction h with
  | here h => have := bestV_range (l := l) (n := n) (by rw [h]; omega); omega
  | left h _ ih => have := bestV_range (l := l) (n := n) (by rw [h]; omega); omega
  | right h _ ih => have := bestV_range (l := l) (n := n) (by rw [h]; omega); omega
theorem kept_none {l : List (Int × Int)} {n : Int} {i k j : Nat} (h : bestV l n i k < 0) : ¬ Kept l n i k j := fun hk => by
  cases hk with
  | here h' => omega
  | left h' _ => omega
  | right h' _ => omega
theorem kept_iff {l : List (Int × Int)} {n : Int} {i k b j : Nat} (h : bestV l n i k = (b : Int)) : Kept l n i k j ↔ j = b ∨ Kept l n i b j ∨ Kept l n b k j := by
  constructor
  · intro hk
    cases hk with
    | here h' => left; omega
    | left h' hj => right; left; rw [show b = _ by exact Int.ofNat.inj (h.symm.trans h')]; exact hj
    | right h' hj => right; right; rw [show b = _ by exact Int.ofNat.inj (h.symm.trans h')]; exact hj
  · rintro (rfl | hk | hk)
    · exact .here h
    · exact .left h hk
    · exact .right h hk
/-- Between two kept ones that follow one another nothing is too far. -/
theorem gap_none {l : List (Int × Int)} {n : Int} : ∀ (m i k : Nat), k - i ≤ m → ∀ u v, (u = i ∨ Kept l n i k u) → (v = k ∨ Kept l n i k v) → u < v → (∀ j, u < j → j < v → ¬ Kept l n i k j) → bestV l n u v < 0
  | 0, i, k, hm, u, v, hu, hv, huv, hn => by
    have h1 : u = i ∨ (i < u ∧ u < k) := hu.imp_right Kept.between
    have h2 : v = k ∨ (i < v ∧ v < k) := hv.imp_right Kept.between
    omega
  | m + 1, i, k, hm, u, v, hu, hv, huv, hn => by
    by_cases hb : bestV l n i k < 0
    · obtain rfl : u = i := hu.elim id fun h => absurd h (kept_none hb)
      obtain rfl : v = k := hv.elim id fun h => absurd h (kept_none hb)
      exact hb
    · obtain ⟨b, hbb⟩ : ∃ b : Nat, bestV l n i k = b := ⟨(bestV l n i k).toNat, by omega⟩
      have hr := bestV_range (l := l) (n := n) (i := i) (k := k) (by omega)
      rw [hbb] at hr
      have hkb : Kept l n i k b := .here hbb
      have hcase : v ≤ b ∨ b ≤ u := by
        by_cases h1 : u < b
        · by_cases h2 : b < v
          · exact absurd hkb (hn b h1 h2)
          · left; omega
        · right; omega
      rcases hcase with hvb | hbu
      · refine gap_none m i b (by omega) u v ?_ ?_ huv fun j h1 h2 hj => hn j h1 h2 ((kept_iff hbb).2 (.inr (.inl hj)))
        · rcases hu with hu | hu
          · exact .inl hu
          · rcases (kept_iff hbb).1 hu with h | h | h
            · omega
            · exact .inr h
            · have := h.between; omega
        · rcases hv with hv | hv
          · omega
          · rcases (kept_iff hbb).1 hv with h | h | h
            · exact .inl h
            · exact .inr h
            · have := h.between; omega
      · refine gap_none m b k (by omega) u v ?_ ?_ huv fun j h1 h2 hj => hn j h1 h2 ((kept_iff hbb).2 (.inr (.inr hj)))
        · rcases hu with hu | hu
          · omega
          · rcases (kept_iff hbb).1 hu with h | h | h
            · exact .inl h
            · have := h.between; omega
            · exact .inr h
        · rcases hv with hv | hv
          · exact .inl hv
          · rcases (kept_iff hbb).1 hv with h | h | h
            · omega
            · have := h.between; omega
            · exact .inr h
open Classical in
/-- Is a place kept? -/
noncomputable def keepB (l : List (Int × Int)) (n : Int) (j : Nat) : Bool := decide (j = 0 ∨ j + 1 = l.length ∨ Kept l n 0 (l.length - 1) j)
open Classical in
theorem keepB_iff {l : List (Int × Int)} {n : Int} {j : Nat} : keepB l n j = true ↔ (j = 0 ∨ j + 1 = l.length ∨ Kept l n 0 (l.length - 1) j) := by unfold keepB; exact decide_eq_true_iff
/-- The places that are kept, of the first m. -/
def idxTo (f : Nat → Bool) (m : Nat) : List Nat := (List.range m).filter f
noncomputable def simpL (l : List (Int × Int)) (n : Int) : List (Int × Int) := (idxTo (keepB l n) l.length).map (ptA l)
noncomputable def simpV (l : List (Int × Int)) (n : Int) : List (Int × Int) := if isLn l = true ∧ inB n 0 200 = true then simpL l n else l
theorem idx_succ (f : Nat → Bool) (m : Nat) : idxTo f (m + 1) = idxTo f m ++ (if f m = true then [m] else []) := by
  unfold idxTo
  rw [List.range_succ, List.filter_append]
  congr 1
  simp only [List.filter_cons, List.filter_nil]
theorem idx_len (f : Nat → Bool) (m : Nat) : (idxTo f m).length ≤ m := by
  have := List.length_filter_le f (List.range m)
  simpa [idxTo] using this
theorem pt_range (l : List (Int × Int)) : (List.range l.length).map (ptA l) = l := by
  apply List.ext_getElem?
  intro i
  simp only [List.getElem?_map]
  by_cases h : i < l.length
  · rw [List.getElem?_range h, List.getElem?_eq_getElem h]
    simp [ptA, List.getD, h]
  · rw [List.getElem?_eq_none (by simpa using h), List.getElem?_eq_none (by omega)]; rfl
theorem simp_sub (l : List (Int × Int)) (n : Int) : (simpL l n).Sublist l := by
  have h : (idxTo (keepB l n) l.length).Sublist (List.range l.length) := List.filter_sublist
  have := h.map (ptA l)
  rwa [pt_range] at this
theorem simpV_sub (l : List (Int × Int)) (n : Int) : (simpV l n).Sublist l := by
  unfold simpV; split
  · exact simp_sub l n
  · exact List.Sublist.refl _
theorem simpV_len (l : List (Int × Int)) (n : Int) : (simpV l n).length ≤ l.length := (simpV_sub l n).length_le
end Go.Proofs.Ytbnjaaegbmhopaa
