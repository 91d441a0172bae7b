/- Simpler lines: the weights that the program compares, and its stack (values). -/
import Derived.Test.YtpbmngbigdaklaaDoorSimpC
namespace Go.Proofs.YtpbmngbigdaklaaDoor
set_option linter.unusedVariables false

/-- Squares of distances from a segment times this number are whole. -/
def wgtV (a b c d : Int) : Int := if lngD a b c d < 1 then 1 else lngD a b c d
/-- The square of the distance, times wgtV. -/
def weighV (a b c d x y : Int) : Int :=
  if atD a b c d x y ≤ 0 then sqD a b x y * wgtV a b c d else if lngD a b c d ≤ atD a b c d x y then sqD c d x y * wgtV a b c d else sqD a b x y * lngD a b c d - atD a b c d x y * atD a b c d x y
theorem along_eq (a b c d x y : Int) : sqD a b x y + lngD a b c d - sqD c d x y = 2 * atD a b c d x y := by unfold sqD lngD atD; grind
theorem lng_sq (a b c d : Int) : (a - c) * (a - c) + (b - d) * (b - d) = lngD a b c d := by unfold lngD; grind
theorem lagrange (a b c d x y : Int) : sqD a b x y * lngD a b c d - atD a b c d x y * atD a b c d x y = crsD a b c d x y * crsD a b c d x y := by
  unfold sqD lngD atD crsD; grind
theorem wgt_pos (a b c d : Int) : 1 ≤ wgtV a b c d := by unfold wgtV; split <;> omega
theorem weigh_far (a b c d x y : Int) : weighV a b c d x y * (farD a b c d x y).2 = (farD a b c d x y).1 * wgtV a b c d := by
  unfold weighV farD
  split
  · simp only [Int.mul_one]
  · split
    · simp only [Int.mul_one]
    · next h1 h2 =>
      have hw : wgtV a b c d = lngD a b c d := by unfold wgtV; rw [if_neg (by omega)]
      rw [lagrange, hw]
theorem mul_le_iff {a b k : Int} (hk : 1 ≤ k) : a * k ≤ b * k ↔ a ≤ b := ⟨fun h => Int.le_of_mul_le_mul_right h (by omega), fun h => Int.mul_le_mul_of_nonneg_right h (by omega)⟩
theorem near_cross {f1 f2 W k m : Int} (h : k * f2 = f1 * W) (h2 : 1 ≤ f2) (hW : 1 ≤ W) : f1 ≤ m * f2 ↔ k ≤ m * W := by
  rw [← mul_le_iff hW, ← h, ← mul_le_iff (a := k) h2]
  rw [show m * f2 * W = m * W * f2 by grind]
theorem cross_lt {f1 f2 g1 g2 W k m : Int} (h : k * f2 = f1 * W) (h' : m * g2 = g1 * W) (h2 : 1 ≤ f2) (h3 : 1 ≤ g2) (hW : 1 ≤ W) : g1 * f2 < f1 * g2 ↔ m < k := by
  have e1 : g1 * f2 * W = m * (g2 * f2) := by rw [show g1 * f2 * W = g1 * W * f2 by grind, ← h']; grind
  have e2 : f1 * g2 * W = k * (g2 * f2) := by rw [show f1 * g2 * W = f1 * W * g2 by grind, ← h]; grind
  have hp : 1 ≤ g2 * f2 := by
    have := Int.mul_le_mul h3 h2 (by omega) (by omega)
    omega
  have a1 := mul_le_iff (a := f1 * g2) (b := g1 * f2) hW
  have a2 := mul_le_iff (a := k) (b := m) hp
  rw [e1, e2, a2] at a1
  omega
theorem near_weigh {a b c d x y n : Int} : nearD (farD a b c d x y) n = decide (weighV a b c d x y ≤ n * n * wgtV a b c d) := by
  unfold nearD
  exact decide_eq_decide.2 (near_cross (weigh_far a b c d x y) far_den (wgt_pos a b c d))
theorem nearV_weigh {a b c d x y n : Int} : nearV a b c d x y n = (isS a b c d && (isP x y && (inB n 0 200 && decide (weighV a b c d x y ≤ n * n * wgtV a b c d)))) := by
  unfold nearV; rw [near_weigh]
def weighJ (l : List (Int × Int)) (i k j : Nat) : Int := weighV (ptA l i).1 (ptA l i).2 (ptA l k).1 (ptA l k).2 (ptA l j).1 (ptA l j).2
def limJ (l : List (Int × Int)) (n : Int) (i k : Nat) : Int := n * n * wgtV (ptA l i).1 (ptA l i).2 (ptA l k).1 (ptA l k).2
/-- The greatest weight among the first t points behind i. -/
def gS (l : List (Int × Int)) (n : Int) (i k : Nat) : Nat → Nat × Int
  | 0 => (i, limJ l n i k)
  | t + 1 => if (gS l n i k t).2 < weighJ l i k (i + 1 + t) then (i + 1 + t, weighJ l i k (i + 1 + t)) else gS l n i k t
theorem gS_best (l : List (Int × Int)) (n : Int) (i k : Nat) : ∀ t,
    ((bestS l n i k t).1 < 0 ∧ gS l n i k t = (i, limJ l n i k)) ∨
    (∃ b : Nat, i < b ∧ b ≤ i + t ∧ bestS l n i k t = ((b : Int), (farJ l i k b).1, (farJ l i k b).2) ∧ gS l n i k t = (b, weighJ l i k b) ∧ limJ l n i k < weighJ l i k b)
  | 0 => .inl ⟨by simp [bestS], rfl⟩
  | t + 1 => by
    have hn : nearD (farJ l i k (i + 1 + t)) n = false ↔ limJ l n i k < weighJ l i k (i + 1 + t) := by
      unfold farJ weighJ limJ
      rw [near_weigh, decide_eq_false_iff_not]; omega
    rcases gS_best l n i k t with ⟨h1, h2⟩ | ⟨b, hb1, hb2, h1, h2, h3⟩
    · by_cases hg : limJ l n i k < weighJ l i k (i + 1 + t)
      · refine .inr ⟨i + 1 + t, by omega, by omega, bestS_yes ⟨hn.2 hg, .inl h1⟩, ?_, hg⟩
        rw [gS, h2, if_pos hg]
      · refine .inl ⟨?_, ?_⟩
        · rw [bestS_no (fun h => hg (hn.1 h.1))]; exact h1
        · rw [gS, h2, if_neg hg]
    · have hc : (farJ l i k b).1 * (farJ l i k (i + 1 + t)).2 < (farJ l i k (i + 1 + t)).1 * (farJ l i k b).2 ↔ weighJ l i k b < weighJ l i k (i + 1 + t) :=
        cross_lt (weigh_far _ _ _ _ _ _) (weigh_far _ _ _ _ _ _) far_den far_den (wgt_pos _ _ _ _)
      by_cases hg : weighJ l i k b < weighJ l i k (i + 1 + t)
      · refine .inr ⟨i + 1 + t, by omega, by omega, bestS_yes ⟨hn.2 (by omega), .inr ?_⟩, ?_, by omega⟩
        · rw [h1]; exact hc.2 hg
        · rw [gS, h2, if_pos hg]
      · refine .inr ⟨b, hb1, by omega, ?_, ?_, h3⟩
        · rw [bestS_no ?_]; exact h1
          rw [h1]
          rintro ⟨-, h | h⟩
          · dsimp only at h; omega
          · exact hg (hc.1 h)
        · rw [gS, h2, if_neg hg]
/-- The whole search: nothing is too far, or the farthest place. -/
theorem gV_best (l : List (Int × Int)) (n : Int) (i k : Nat) :
    (bestV l n i k < 0 ∧ (gS l n i k (k - (i + 1))).1 = i) ∨ (∃ b : Nat, i < b ∧ bestV l n i k = (b : Int) ∧ (gS l n i k (k - (i + 1))).1 = b) := by
  rcases gS_best l n i k (k - (i + 1)) with ⟨h1, h2⟩ | ⟨b, hb1, hb2, h1, h2, h3⟩
  · exact .inl ⟨h1, by rw [h2]⟩
  · exact .inr ⟨b, hb1, by unfold bestV; rw [h1], by rw [h2]⟩
/-- How great the weights are. -/
theorem weigh_bd {a b c d x y : Int} (hA : 0 ≤ a ∧ a ≤ 200 ∧ 0 ≤ b ∧ b ≤ 200) (hC : 0 ≤ c ∧ c ≤ 200 ∧ 0 ≤ d ∧ d ≤ 200) (hX : 0 ≤ x ∧ x ≤ 200 ∧ 0 ≤ y ∧ y ≤ 200) :
    (0 ≤ sqD a b x y ∧ sqD a b x y ≤ 80000) ∧ (0 ≤ sqD c d x y ∧ sqD c d x y ≤ 80000) ∧ (0 ≤ lngD a b c d ∧ lngD a b c d ≤ 80000) ∧ (-80000 ≤ atD a b c d x y ∧ atD a b c d x y ≤ 80000) := by
  have m1 := mul_bd (u := x - a) (v := c - a) (by omega) (by omega) (by omega) (by omega)
  have m2 := mul_bd (u := y - b) (v := d - b) (by omega) (by omega) (by omega) (by omega)
  have s1 := sq_bd (x := c - a) (k := 200) (by omega) (by omega)
  have s2 := sq_bd (x := d - b) (k := 200) (by omega) (by omega)
  have s3 := sq_bd (x := a - x) (k := 200) (by omega) (by omega)
  have s4 := sq_bd (x := b - y) (k := 200) (by omega) (by omega)
  have s5 := sq_bd (x := c - x) (k := 200) (by omega) (by omega)
  have s6 := sq_bd (x := d - y) (k := 200) (by omega) (by omega)
  unfold sqD lngD atD
  omega
/-- What is on the stack: the next place on top; between two of them, what is kept. -/
def ChainS (l : List (Int × Int)) (n : Int) : Nat → List Nat → Prop
  | u, [] => u + 1 = l.length
  | u, v :: R => u < v ∧ (∀ j, u < j → j < v → (keepB l n j = true ↔ Kept l n u v j)) ∧ keepB l n v = true ∧ ChainS l n v R
theorem ChainS.len {l : List (Int × Int)} {n : Int} : ∀ {R : List Nat} {u : Nat}, ChainS l n u R → R.length + u + 1 ≤ l.length
  | [], u, h => by unfold ChainS at h; simp only [List.length_nil]; omega
  | v :: R, u, h => by
    have := h.2.2.2.len
    have := h.1
    simp only [List.length_cons]; omega
theorem ChainS.start {l : List (Int × Int)} {n : Int} (h2 : 2 ≤ l.length) : ChainS l n 0 [l.length - 1] :=
  ⟨by omega, fun j h1 h3 => keep_mid h1 (by omega), keep_last (by omega), by unfold ChainS; omega⟩
theorem ChainS.push {l : List (Int × Int)} {n : Int} {u v b : Nat} {R : List Nat} (h : ChainS l n u (v :: R)) (hb : bestV l n u v = (b : Int)) : ChainS l n u (b :: v :: R) := by
  obtain ⟨h1, h2, h3, h4⟩ := h
  have hr := bestV_range (l := l) (n := n) (i := u) (k := v) (by omega)
  rw [hb] at hr
  refine ⟨by omega, fun j q1 q2 => ?_, (h2 b (by omega) (by omega)).2 (.here hb), by omega, fun j q1 q2 => ?_, h3, h4⟩
  · rw [h2 j q1 (by omega), kept_iff hb]
    constructor
    · rintro (e | e | e)
      · omega
      · exact e
      · have := e.between; omega
    · exact fun e => .inr (.inl e)
  · rw [h2 j (by omega) q2, kept_iff hb]
    constructor
    · rintro (e | e | e)
      · omega
      · have := e.between; omega
      · exact e
    · exact fun e => .inr (.inr e)
theorem idx_skip {f : Nat → Bool} {u v : Nat} (huv : u < v) (hn : ∀ j, u < j → j < v → f j = false) : idxTo f v = idxTo f (u + 1) := by
  induction v with
  | zero => omega
  | succ v ih =>
    by_cases e : u = v
    · subst e; rfl
    · rw [idx_succ, hn v (by omega) (by omega)]
      simp only [Bool.false_eq_true, if_false, List.append_nil]
      exact ih (by omega) fun j h1 h2 => hn j h1 (by omega)
/-- What has been kept up to a place. -/
noncomputable def outTo (l : List (Int × Int)) (n : Int) (u : Nat) : List (Int × Int) := (idxTo (keepB l n) (u + 1)).map (ptA l)
theorem ChainS.pop {l : List (Int × Int)} {n : Int} {u v : Nat} {R : List Nat} (h : ChainS l n u (v :: R)) (hb : bestV l n u v < 0) : ChainS l n v R ∧ outTo l n v = outTo l n u ++ [ptA l v] := by
  obtain ⟨h1, h2, h3, h4⟩ := h
  refine ⟨h4, ?_⟩
  unfold outTo
  rw [idx_succ, if_pos h3, idx_skip h1 fun j q1 q2 => ?_, List.map_append]
  · rfl
  · cases hk : keepB l n j
    · rfl
    · exact absurd ((h2 j q1 q2).1 hk) (kept_none hb)
theorem out_zero (l : List (Int × Int)) (n : Int) : outTo l n 0 = [ptA l 0] := by
  unfold outTo
  rw [idx_succ, if_pos (keep_zero l n)]; rfl
theorem ChainS.done {l : List (Int × Int)} {n : Int} {u : Nat} (h : ChainS l n u []) : outTo l n u = simpL l n := by
  unfold ChainS at h; unfold outTo simpL; rw [h]
theorem out_len (l : List (Int × Int)) (n : Int) (u : Nat) : (outTo l n u).length ≤ u + 1 := by
  unfold outTo; rw [List.length_map]; exact idx_len _ _
end Go.Proofs.YtpbmngbigdaklaaDoor
