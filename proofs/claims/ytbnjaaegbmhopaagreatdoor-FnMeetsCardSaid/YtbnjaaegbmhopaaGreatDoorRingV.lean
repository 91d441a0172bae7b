/- Rings by values: rotated, their corners are inside; the drawn shapes have an area if they are rings. -/
import Derived.Test.YtbnjaaegbmhopaaGreatDoorRingNZ2
import Derived.Test.YtbnjaaegbmhopaaGreatDoorRingNZ3
namespace Go.Proofs.YtbnjaaegbmhopaaGreatDoor
open Go.RowKit
set_option linter.unusedVariables false

/-- Rotated by one, n times. -/
def rotN {α : Type} : Nat → List α → List α
  | 0, l => l
  | n + 1, l => rotN n (rot1 l)
theorem rotN_eq {α : Type} : ∀ (n : Nat) (l : List α), n ≤ l.length → rotN n l = l.drop n ++ l.take n
  | 0, l, _ => by simp [rotN]
  | n + 1, [], h => by simp at h
  | n + 1, a :: t, h => by
    have hn : n ≤ t.length := by simpa using h
    rw [rotN, rotN_eq n _ (by rw [rot1_len]; simp; omega)]
    simp only [rot1, List.drop_succ_cons, List.take_succ_cons]
    rw [List.drop_append_of_le_length hn, List.take_append_of_le_length hn]
    simp
theorem isRg_rot1 {l : List (Int × Int)} (h : isRg l = true) : isRg (rot1 l) = true := by
  rw [isRg_iff] at h ⊢
  rw [rot1_len, rgS_rot1]
  exact ⟨h.1, fun s hs => h.2.1 s (mem_rot1.1 hs), cycOk_rot1 h.2.2⟩
theorem isRg_rotN : ∀ (n : Nat) (l : List (Int × Int)), isRg l = true → isRg (rotN n l) = true
  | 0, _, h => h
  | n + 1, l, h => isRg_rotN n _ (isRg_rot1 h)
theorem sum_rot1 {α : Type} (f : α → Int) (l : List α) : ((rot1 l).map f).sum = (l.map f).sum := by
  cases l with
  | nil => rfl
  | cons a t => simp [rot1, Int.add_comm]
theorem sum_rotN : ∀ (n : Nat) (l : List (Int × Int)), ((rgS (rotN n l)).map arS).sum = ((rgS l).map arS).sum
  | 0, _ => rfl
  | n + 1, l => by rw [rotN, sum_rotN n, rgS_rot1, sum_rot1]
theorem isRg_cut (l : List (Int × Int)) {j : Nat} (hj : j ≤ l.length) : isRg (l.drop j ++ l.take j) = isRg l := by
  rw [Bool.eq_iff_iff]
  constructor
  · intro h
    have hl : (l.drop j ++ l.take j).length = l.length := by simp; omega
    have := isRg_rotN (l.length - j) _ h
    rw [rotN_eq _ _ (by rw [hl]; omega)] at this
    have hd : (l.drop j).length = l.length - j := by simp
    rwa [List.drop_append_of_le_length (by omega), List.take_append_of_le_length (by omega), ← hd, List.drop_length, List.take_length, List.nil_append, List.take_append_drop] at this
  · intro h
    have := isRg_rotN j l h
    rwa [rotN_eq _ _ hj] at this
theorem twA_cut (l : List (Int × Int)) {j : Nat} (hj : j ≤ l.length) : twA (l.drop j ++ l.take j) = twA l := by
  unfold twA
  rw [isRg_cut l hj, ← rotN_eq j l hj, sum_rotN]
/-- What is inside is a point of the map. -/
theorem inV_isP {l : List (Int × Int)} {p : Int × Int} (h : inV l p = true) : isP p.1 p.2 = true := by
  unfold inV at h
  simp only [Bool.and_eq_true] at h
  exact h.1.2
/-- A corner is inside. -/
theorem inV_corner {l : List (Int × Int)} (h : isRg l = true) {i : Nat} {x y : Int} (hi : l[i]? = some (x, y)) : inV l (x, y) = true := by
  have hil := (List.getElem?_eq_some_iff.1 hi).1
  obtain ⟨⟨c, d⟩, hq⟩ : ∃ q, l[(i + 1) % l.length]? = some q := ⟨_, List.getElem?_eq_getElem (Nat.mod_lt _ (by omega))⟩
  have hs := rgS_get hi hq
  have hok := rg_seg h hs
  obtain ⟨h1, -, -⟩ := isS_at hok
  have hp : isP x y = true := isP_of h1.1 h1.2.1 h1.2.2.1 h1.2.2.2
  have hon : onS (x, y) (x, y, c, d) = true := (on_ends hok).1
  unfold inV
  rw [h, hp, Bool.true_and, Bool.true_and]
  rw [Bool.or_eq_true]
  exact .inl (List.any_eq_true.2 ⟨_, List.mem_of_getElem? hs, hon⟩)
/-- If it is a ring, then it has an area. -/
def Fine (l : List (Int × Int)) : Prop := isRg l = true → twA l ≠ 0
theorem fine_short {l : List (Int × Int)} (h : l.length < 3) : Fine l := fun hr => by
  have := ((isRg_iff l).1 hr).1; omega
/-- The shapes that are drawn. -/
def ShP (l : List (Int × Int)) : Prop := ∃ x y w h : Int, (2 ≤ w ∧ w ≤ 7) ∧ (2 ≤ h ∧ h ≤ 7) ∧
  (l = [(x, y), (x + w, y), (x + w, y + h), (x, y + h)] ∨ l = [(x, y), (x + w, y), (x, y + h)] ∨
   l = [(x, y), (x + 2 * w, y), (x + 2 * w, y + h), (x + w, y + h), (x + w, y + 2 * h), (x, y + 2 * h)] ∨ l = [(x, y), (x + w, y + 1), (x + 2 * w, y), (x + w, y + h)])
theorem ShP.len {l : List (Int × Int)} (h : ShP l) : 3 ≤ l.length ∧ l.length ≤ 6 := by
  obtain ⟨x, y, w, h, -, -, rfl | rfl | rfl | rfl⟩ := h <;> simp
theorem ShP.head {l : List (Int × Int)} (h : ShP l) (X Y : Int) : Fine (l.set 0 (X, Y)) := by
  obtain ⟨x, y, w, h, hw, hh, rfl | rfl | rfl | rfl⟩ := h
  · exact fun hr => nz_sq hw hh hr
  · exact fun hr => nz_tri hw hh hr
  · exact fun hr => nz_hex hw hh hr
  · exact fun hr => nz_dart hw hh hr
theorem ShP.fine {l : List (Int × Int)} (h : ShP l) : Fine l := by
  obtain ⟨x, y, w, h, hw, hh, rfl | rfl | rfl | rfl⟩ := h
  · exact fun hr => nz_sq hw hh hr
  · exact fun hr => nz_tri hw hh hr
  · exact fun hr => nz_hex hw hh hr
  · exact fun hr => nz_dart hw hh hr
theorem ShP.swap {a b : Int × Int} {t : List (Int × Int)} (h : ShP (a :: b :: t)) : Fine (b :: a :: t) := by
  obtain ⟨x, y, w, h, hw, hh, e | e | e | e⟩ := h <;> (simp only [List.cons.injEq] at e; obtain ⟨rfl, rfl, rfl⟩ := e)
  · exact fun hr => sw_sq hw hh hr
  · exact fun hr => sw_tri hw hh hr
  · exact fun hr => sw_hex hw hh hr
  · exact fun hr => sw_dart hw hh hr
end Go.Proofs.YtbnjaaegbmhopaaGreatDoor
