/- Segments: the plane geometry, over whole numbers, without any program. -/
import Derived.Test.YtbnjaaegbmhopaaGreatDoorPoint4
namespace Go.Proofs.YtbnjaaegbmhopaaGreatDoor
set_option linter.unusedVariables false

/-- The cross product: on which side of the line through (a, b) and (c, d) the point (x, y) is. -/
def crs (a b c d x y : Int) : Int := (c - a) * (y - b) - (d - b) * (x - a)
/-- Between two numbers, in either order. -/
theorem btw {n m u v : Int} (hn : n ≠ 0) (h : n * u = v * m) (hv : 0 ≤ v ∧ v ≤ n ∨ n ≤ v ∧ v ≤ 0) : 0 ≤ u ∧ u ≤ m ∨ m ≤ u ∧ u ≤ 0 := by
  rcases hv with ⟨h0, h1⟩ | ⟨h1, h0⟩
  · have hp : 0 < n := by omega
    by_cases hm : 0 ≤ m
    · refine .inl ⟨?_, ?_⟩
      · have h2 : 0 ≤ n * u := by rw [h]; exact Int.mul_nonneg h0 hm
        exact Int.nonneg_of_mul_nonneg_right h2 hp
      · have h2 : n * u ≤ n * m := by rw [h]; exact Int.mul_le_mul_of_nonneg_right h1 hm
        exact Int.le_of_mul_le_mul_left h2 hp
    · refine .inr ⟨?_, ?_⟩
      · have h2 : n * m ≤ n * u := by rw [h]; exact Int.mul_le_mul_of_nonpos_right h1 (by omega)
        exact Int.le_of_mul_le_mul_left h2 hp
      · have h2 : n * u ≤ n * 0 := by rw [h, Int.mul_zero]; exact Int.mul_nonpos_of_nonneg_of_nonpos h0 (by omega)
        exact Int.le_of_mul_le_mul_left h2 hp
  · have hp : 0 < -n := by omega
    have h' : (-n) * u = (-v) * m := by rw [Int.neg_mul, Int.neg_mul, h]
    by_cases hm : 0 ≤ m
    · refine .inl ⟨?_, ?_⟩
      · have h2 : 0 ≤ (-n) * u := by rw [h']; exact Int.mul_nonneg (by omega) hm
        exact Int.nonneg_of_mul_nonneg_right h2 hp
      · have h2 : (-n) * u ≤ (-n) * m := by rw [h']; exact Int.mul_le_mul_of_nonneg_right (by omega) hm
        exact Int.le_of_mul_le_mul_left h2 hp
    · refine .inr ⟨?_, ?_⟩
      · have h2 : (-n) * m ≤ (-n) * u := by rw [h']; exact Int.mul_le_mul_of_nonpos_right (by omega) (by omega)
        exact Int.le_of_mul_le_mul_left h2 hp
      · have h2 : (-n) * u ≤ (-n) * 0 := by rw [h', Int.mul_zero]; exact Int.mul_nonpos_of_nonneg_of_nonpos (by omega) (by omega)
        exact Int.le_of_mul_le_mul_left h2 hp
/-- A point lies on a segment: in its box and on its line. -/
def On (a b c d x y : Int) : Prop := min a c ≤ x ∧ x ≤ max a c ∧ min b d ≤ y ∧ y ≤ max b d ∧ crs a b c d x y = 0
theorem crs_xy (a b c d x y : Int) : crs b a d c y x = -crs a b c d x y := by unfold crs; grind
theorem crs_turn (a b c d x y : Int) : crs c d a b x y = -crs a b c d x y := by unfold crs; grind
theorem on_xy {a b c d x y : Int} : On b a d c y x ↔ On a b c d x y := by
  unfold On; rw [crs_xy]; omega
theorem on_turn {a b c d x y : Int} : On c d a b x y ↔ On a b c d x y := by
  unfold On; rw [crs_turn]; omega
/-- An end of one that is on the other. -/
def Mem (oA oB oC oD : Prop) (a b c d p q r s x y : Int) : Prop := (oA ∧ x = a ∧ y = b) ∨ (oB ∧ x = c ∧ y = d) ∨ (oC ∧ x = p ∧ y = q) ∨ (oD ∧ x = r ∧ y = s)
/-- The ends of both that are on the other one. -/
def Sh (a b c d p q r s x y : Int) : Prop := Mem (On p q r s a b) (On p q r s c d) (On a b c d p q) (On a b c d r s) a b c d p q r s x y
theorem sh_xy {a b c d p q r s x y : Int} : Sh b a d c q p s r y x ↔ Sh a b c d p q r s x y := by
  unfold Sh Mem; simp only [on_xy, and_comm (a := y = _) (b := x = _)]
def Single (M : Int → Int → Prop) : Prop := ∃ x y, M x y ∧ ∀ x' y', M x' y' → x' = x ∧ y' = y
def Many (M : Int → Int → Prop) : Prop := ∃ x y x' y', M x y ∧ M x' y' ∧ ¬ (x = x' ∧ y = y')
/-- Two segments of one line that is not upright. -/
theorem col_slant {a b c d p q r s : Int} (hn : a ≠ c) (ht : p ≠ r ∨ q ≠ s) (h1 : crs a b c d p q = 0) (h2 : crs a b c d r s = 0)
    (hx : max (min a c) (min p r) ≤ min (max a c) (max p r)) :
    (max (min a c) (min p r) = min (max a c) (max p r) → Single (Sh a b c d p q r s) ∧ max (min b d) (min q s) = min (max b d) (max q s) ∨ min (max b d) (max q s) < max (min b d) (min q s)) ∧
    (max (min a c) (min p r) < min (max a c) (max p r) → Many (Sh a b c d p q r s)) := by
  -- each point is on the line
  have e (x y : Int) (h : crs a b c d x y = 0) : (c - a) * (y - b) = (x - a) * (d - b) := by unfold crs at h; grind
  have e1 := e p q h1
  have e2 := e r s h2
  have hpr : p ≠ r := by
    intro h
    subst h
    have : (c - a) * (q - s) = 0 := by grind
    rcases Int.mul_eq_zero.1 this with h | h <;> omega
  have g (x y : Int) (h : (c - a) * (y - b) = (x - a) * (d - b)) : crs p q r s x y = 0 := by
    have : (c - a) * crs p q r s x y = 0 := by unfold crs; grind
    rcases Int.mul_eq_zero.1 this with h | h
    · omega
    · exact h
  -- the height follows the place
  have eA : (c - a) * (b - b) = (a - a) * (d - b) := by grind
  have eB : (c - a) * (d - b) = (c - a) * (d - b) := rfl
  have onS (x y : Int) (h : (c - a) * (y - b) = (x - a) * (d - b)) (h0 : min a c ≤ x) (h1 : x ≤ max a c) : On a b c d x y := by
    have := btw (n := c - a) (m := d - b) (u := y - b) (v := x - a) (by omega) h (by omega)
    exact ⟨h0, h1, by omega, by omega, by unfold crs; grind⟩
  have onT (x y : Int) (h : (c - a) * (y - b) = (x - a) * (d - b)) (h0 : min p r ≤ x) (h1 : x ≤ max p r) : On p q r s x y := by
    have hg := g x y h
    have := btw (n := r - p) (m := s - q) (u := y - q) (v := x - p) (by omega) (by unfold crs at hg; grind) (by omega)
    exact ⟨h0, h1, by omega, by omega, hg⟩
  have same (x y x' y' : Int) (h : (c - a) * (y - b) = (x - a) * (d - b)) (h' : (c - a) * (y' - b) = (x' - a) * (d - b)) (hx : x = x') : y = y' := by
    have : (c - a) * (y - y') = 0 := by subst hx; grind
    rcases Int.mul_eq_zero.1 this with h | h <;> omega
  -- every end that is on the other lies in the range that both share, and has its height by its place
  have range (x y : Int) (h : Sh a b c d p q r s x y) : max (min a c) (min p r) ≤ x ∧ x ≤ min (max a c) (max p r) ∧ (c - a) * (y - b) = (x - a) * (d - b) := by
    rcases h with ⟨h, rfl, rfl⟩ | ⟨h, rfl, rfl⟩ | ⟨h, rfl, rfl⟩ | ⟨h, rfl, rfl⟩
    · exact ⟨by have := h.1; omega, by have := h.2.1; omega, eA⟩
    · exact ⟨by have := h.1; omega, by have := h.2.1; omega, eB⟩
    · exact ⟨by have := h.1; omega, by have := h.2.1; omega, e1⟩
    · exact ⟨by have := h.1; omega, by have := h.2.1; omega, e2⟩
  have found (z : Int) (hz : z = max (min a c) (min p r) ∨ z = min (max a c) (max p r)) : ∃ y, Sh a b c d p q r s z y := by
    have : z = a ∨ z = c ∨ z = p ∨ z = r := by omega
    rcases this with h | h | h | h
    · exact ⟨b, .inl ⟨onT a b eA (by omega) (by omega), h, rfl⟩⟩
    · exact ⟨d, .inr (.inl ⟨onT c d eB (by omega) (by omega), h, rfl⟩)⟩
    · exact ⟨q, .inr (.inr (.inl ⟨onS p q e1 (by omega) (by omega), h, rfl⟩))⟩
    · exact ⟨s, .inr (.inr (.inr ⟨onS r s e2 (by omega) (by omega), h, rfl⟩))⟩
  refine ⟨fun hz => ?_, fun hz => ?_⟩
  · by_cases hy : min (max b d) (max q s) < max (min b d) (min q s)
    · exact .inr hy
    · refine .inl ⟨?_, ?_⟩
      · obtain ⟨y, hy⟩ := found _ (.inl rfl)
        refine ⟨_, y, hy, fun x' y' h' => ?_⟩
        have r1 := range _ _ hy
        have r2 := range _ _ h'
        have hxx : x' = max (min a c) (min p r) := by omega
        exact ⟨hxx, same _ _ _ _ r2.2.2 r1.2.2 hxx⟩
      · -- the heights: those of s on one side, those of t on the other
        have up (x y x' y' : Int) (h : (c - a) * (y - b) = (x - a) * (d - b)) (h' : (c - a) * (y' - b) = (x' - a) * (d - b)) : (c - a) * (y' - y) = (x' - x) * (d - b) := by grind
        have mono (hs : 0 ≤ (c - a) * (d - b)) (x y x' y' : Int) (h : (c - a) * (y - b) = (x - a) * (d - b)) (h' : (c - a) * (y' - b) = (x' - a) * (d - b)) (hx : x ≤ x') : y ≤ y' := by
          have := up x y x' y' h h'
          by_cases hc : y' < y
          · exfalso
            have h3 : (c - a) * (c - a) * (y' - y) = (x' - x) * ((c - a) * (d - b)) := by grind
            have h4 : 0 ≤ (x' - x) * ((c - a) * (d - b)) := Int.mul_nonneg (by omega) hs
            have h5 : 0 < (c - a) * (c - a) := by
              rcases Int.lt_or_gt_of_ne hn with h | h
              · exact Int.mul_pos (by omega) (by omega)
              · exact Int.mul_pos_of_neg_of_neg (by omega) (by omega)
            have h6 : (c - a) * (c - a) * (y' - y) < 0 := Int.mul_neg_of_pos_of_neg h5 (by omega)
            omega
          · omega
        have anti (hs : (c - a) * (d - b) ≤ 0) (x y x' y' : Int) (h : (c - a) * (y - b) = (x - a) * (d - b)) (h' : (c - a) * (y' - b) = (x' - a) * (d - b)) (hx : x ≤ x') : y' ≤ y := by
          have := up x y x' y' h h'
          by_cases hc : y < y'
          · exfalso
            have h3 : (c - a) * (c - a) * (y' - y) = (x' - x) * ((c - a) * (d - b)) := by grind
            have h4 : (x' - x) * ((c - a) * (d - b)) ≤ 0 := Int.mul_nonpos_of_nonneg_of_nonpos (by omega) hs
            have h5 : 0 < (c - a) * (c - a) := by
              rcases Int.lt_or_gt_of_ne hn with h | h
              · exact Int.mul_pos (by omega) (by omega)
              · exact Int.mul_pos_of_neg_of_neg (by omega) (by omega)
            have h6 : 0 < (c - a) * (c - a) * (y' - y) := Int.mul_pos h5 (by omega)
            omega
          · omega
        have key : (a ≤ p ∧ a ≤ r ∧ c ≤ p ∧ c ≤ r) ∨ (p ≤ a ∧ r ≤ a ∧ p ≤ c ∧ r ≤ c) := by
          clear mono anti up range found onS onT same g e eA eB e1 e2 h1 h2 hy
          omega
        have fin : (b ≤ q ∧ b ≤ s ∧ d ≤ q ∧ d ≤ s) ∨ (q ≤ b ∧ s ≤ b ∧ q ≤ d ∧ s ≤ d) := by
          by_cases hs : 0 ≤ (c - a) * (d - b)
          · rcases key with ⟨g1, g2, g3, g4⟩ | ⟨g1, g2, g3, g4⟩
            · exact .inl ⟨mono hs a b p q eA e1 g1, mono hs a b r s eA e2 g2, mono hs c d p q eB e1 g3, mono hs c d r s eB e2 g4⟩
            · exact .inr ⟨mono hs p q a b e1 eA g1, mono hs r s a b e2 eA g2, mono hs p q c d e1 eB g3, mono hs r s c d e2 eB g4⟩
          · have hs : (c - a) * (d - b) ≤ 0 := by omega
            rcases key with ⟨g1, g2, g3, g4⟩ | ⟨g1, g2, g3, g4⟩
            · exact .inr ⟨anti hs a b p q eA e1 g1, anti hs a b r s eA e2 g2, anti hs c d p q eB e1 g3, anti hs c d r s eB e2 g4⟩
            · exact .inl ⟨anti hs p q a b e1 eA g1, anti hs r s a b e2 eA g2, anti hs p q c d e1 eB g3, anti hs r s c d e2 eB g4⟩
        clear mono anti up range found onS onT same g e eA eB e1 e2 h1 h2 key hx hz
        omega
  · obtain ⟨y, hy⟩ := found _ (.inl rfl)
    obtain ⟨y', hy'⟩ := found _ (.inr rfl)
    exact ⟨_, _, _, _, hy, hy', by omega⟩
/-- Two segments of one line whose boxes meet: they share one point just if their boxes do. -/
theorem col_any {a b c d p q r s : Int} (hs : a ≠ c ∨ b ≠ d) (ht : p ≠ r ∨ q ≠ s) (h1 : crs a b c d p q = 0) (h2 : crs a b c d r s = 0)
    (hx : max (min a c) (min p r) ≤ min (max a c) (max p r)) (hy : max (min b d) (min q s) ≤ min (max b d) (max q s)) :
    (max (min a c) (min p r) = min (max a c) (max p r) ∧ max (min b d) (min q s) = min (max b d) (max q s) → Single (Sh a b c d p q r s)) ∧
    (¬ (max (min a c) (min p r) = min (max a c) (max p r) ∧ max (min b d) (min q s) = min (max b d) (max q s)) → Many (Sh a b c d p q r s)) := by
  by_cases hn : a = c
  · have hbd : b ≠ d := by omega
    have h1' : crs b a d c q p = 0 := by rw [crs_xy, h1]; rfl
    have h2' : crs b a d c s r = 0 := by rw [crs_xy, h2]; rfl
    obtain ⟨k1, k2⟩ := col_slant hbd ht.symm h1' h2' hy
    have hpa : max (min a c) (min p r) = min (max a c) (max p r) := by
      subst hn
      have e1 : (d - b) * (p - a) = 0 := by unfold crs at h1; grind
      have e2 : (d - b) * (r - a) = 0 := by unfold crs at h2; grind
      rcases Int.mul_eq_zero.1 e1 with h | h <;> rcases Int.mul_eq_zero.1 e2 with h' | h' <;> omega
    refine ⟨fun hz => ?_, fun hz => ?_⟩
    · rcases k1 hz.2 with ⟨⟨x, y, hxy, hall⟩, _⟩ | h
      · exact ⟨y, x, sh_xy.1 hxy, fun x' y' h' => (hall y' x' (sh_xy.2 h')).symm⟩
      · omega
    · obtain ⟨x, y, x', y', m1, m2, hne⟩ := k2 (by omega)
      exact ⟨y, x, y', x', sh_xy.1 m1, sh_xy.1 m2, fun h => hne ⟨h.2, h.1⟩⟩
  · obtain ⟨k1, k2⟩ := col_slant hn ht h1 h2 hx
    refine ⟨fun hz => ?_, fun hz => ?_⟩
    · rcases k1 hz.1 with ⟨h, _⟩ | h
      · exact h
      · omega
    · by_cases hxx : max (min a c) (min p r) = min (max a c) (max p r)
      · rcases k1 hxx with ⟨_, h⟩ | h <;> omega
      · exact k2 (by omega)
/-- A number's sign. -/
def sg (z : Int) : Int := if 0 < z then 1 else if z < 0 then -1 else 0
theorem sg_neg (z : Int) : sg (-z) = -sg z := by unfold sg; split <;> split <;> (first | omega | (split <;> omega))
theorem sg_zero {z : Int} : sg z = 0 ↔ z = 0 := by unfold sg; split <;> (first | omega | (split <;> omega))
theorem sg_cases (z : Int) : (sg z = 1 ∧ 0 < z) ∨ (sg z = 0 ∧ z = 0) ∨ (sg z = -1 ∧ z < 0) := by unfold sg; split <;> (first | omega | (split <;> omega))
/-- One of two numbers at most is negative, one at most positive. -/
def Opp (f g : Int) : Prop := (f ≤ 0 ∧ 0 ≤ g) ∨ (g ≤ 0 ∧ 0 ≤ f)
theorem cross_zero {a b c d p q r s : Int} (ht : p ≠ r ∨ q ≠ s) (h1 : crs p q r s a b = 0) (h2 : crs p q r s c d = 0) : crs a b c d p q = 0 ∧ crs a b c d r s = 0 := by
  have e1 : crs a b c d p q * (r - p) = 0 := by unfold crs at *; grind
  have e2 : crs a b c d p q * (s - q) = 0 := by unfold crs at *; grind
  have e3 : crs a b c d r s - crs a b c d p q = crs p q r s a b - crs p q r s c d := by unfold crs; grind
  have : crs a b c d p q = 0 := by
    rcases ht with h | h
    · rcases Int.mul_eq_zero.1 e1 with h | h
      · exact h
      · omega
    · rcases Int.mul_eq_zero.1 e2 with h | h
      · exact h
      · omega
  exact ⟨this, by omega⟩
/-- An end on the other's line is on the other just if the other's ends are on different sides. -/
theorem end_on {a b c d p q r s : Int} (ht : p ≠ r ∨ q ≠ s) (hf : ¬ (crs a b c d p q = 0 ∧ crs a b c d r s = 0)) (hg : crs p q r s a b = 0) :
    (On p q r s a b ↔ Opp (crs a b c d p q) (crs a b c d r s)) ∧ crs p q r s c d ≠ 0 := by
  have e1 : (crs a b c d r s - crs a b c d p q) * (a - p) = (-crs a b c d p q) * (r - p) := by unfold crs at *; grind
  have e2 : (crs a b c d r s - crs a b c d p q) * (b - q) = (-crs a b c d p q) * (s - q) := by unfold crs at *; grind
  refine ⟨⟨fun h => ?_, fun h => ?_⟩, fun h => hf (cross_zero ht hg h)⟩
  · obtain ⟨x0, x1, y0, y1, _⟩ := h
    rcases ht with h | h
    · have := btw (n := r - p) (m := crs a b c d r s - crs a b c d p q) (u := -crs a b c d p q) (v := a - p) (by omega) (by rw [Int.mul_comm, ← e1, Int.mul_comm]) (by omega)
      unfold Opp; omega
    · have := btw (n := s - q) (m := crs a b c d r s - crs a b c d p q) (u := -crs a b c d p q) (v := b - q) (by omega) (by rw [Int.mul_comm, ← e2, Int.mul_comm]) (by omega)
      unfold Opp; omega
  · have hn : crs a b c d r s - crs a b c d p q ≠ 0 := by unfold Opp at h; omega
    have b1 := btw hn e1 (by unfold Opp at h; omega)
    have b2 := btw hn e2 (by unfold Opp at h; omega)
    exact ⟨by omega, by omega, by omega, by omega, hg⟩
theorem opp_neg {f g : Int} : Opp (-f) (-g) ↔ Opp f g := by unfold Opp; omega
theorem opp_sg {f g : Int} (h : ¬ (f = 0 ∧ g = 0)) : Opp f g ↔ sg f ≠ sg g := by
  unfold Opp
  rcases sg_cases f with h1 | h1 | h1 <;> rcases sg_cases g with h2 | h2 | h2 <;> omega
/-- Two segments of two lines. -/
theorem cut_any {a b c d p q r s : Int} (hs : a ≠ c ∨ b ≠ d) (ht : p ≠ r ∨ q ≠ s) (hf : ¬ (crs a b c d p q = 0 ∧ crs a b c d r s = 0)) :
    ((sg (crs a b c d p q) = sg (crs a b c d r s) ∨ sg (crs p q r s a b) = sg (crs p q r s c d)) → ∀ x y, ¬ Sh a b c d p q r s x y) ∧
    (¬ (sg (crs a b c d p q) = sg (crs a b c d r s) ∨ sg (crs p q r s a b) = sg (crs p q r s c d)) → (crs a b c d p q = 0 ∨ crs a b c d r s = 0 ∨ crs p q r s a b = 0 ∨ crs p q r s c d = 0) → Single (Sh a b c d p q r s)) ∧
    (¬ (crs a b c d p q = 0 ∨ crs a b c d r s = 0 ∨ crs p q r s a b = 0 ∨ crs p q r s c d = 0) → ∀ x y, ¬ Sh a b c d p q r s x y) := by
  have hg : ¬ (crs p q r s a b = 0 ∧ crs p q r s c d = 0) := fun h => hf (cross_zero ht h.1 h.2)
  have kA := fun h => end_on (a := a) (b := b) (c := c) (d := d) ht hf h
  have kB := fun h => end_on (a := c) (b := d) (c := a) (d := b) (p := p) (q := q) (r := r) (s := s) ht (by rw [crs_turn, crs_turn a b]; omega) h
  have kC := fun h => end_on (a := p) (b := q) (c := r) (d := s) (p := a) (q := b) (r := c) (s := d) hs hg h
  have kD := fun h => end_on (a := r) (b := s) (c := p) (d := q) (p := a) (q := b) (r := c) (s := d) hs (by rw [crs_turn, crs_turn p q]; omega) h
  rw [crs_turn a b c d p q, crs_turn a b c d r s, opp_neg] at kB
  rw [crs_turn p q r s a b, crs_turn p q r s c d, opp_neg] at kD
  rw [opp_sg hf] at kA kB
  rw [opp_sg hg] at kC kD
  refine ⟨fun h x y hm => ?_, fun h hz => ?_, fun h x y hm => ?_⟩
  · rcases hm with ⟨hm, _⟩ | ⟨hm, _⟩ | ⟨hm, _⟩ | ⟨hm, _⟩
    · have h0 := hm.2.2.2.2
      obtain ⟨k, k'⟩ := kA h0
      rcases h with h | h
      · exact k.1 hm h
      · have h1 := sg_zero.2 h0
        exact k' (sg_zero.1 (by omega))
    · have h0 := hm.2.2.2.2
      obtain ⟨k, k'⟩ := kB h0
      rcases h with h | h
      · exact k.1 hm h
      · have h1 := sg_zero.2 h0
        exact k' (sg_zero.1 (by omega))
    · have h0 := hm.2.2.2.2
      obtain ⟨k, k'⟩ := kC h0
      rcases h with h | h
      · have h1 := sg_zero.2 h0
        exact k' (sg_zero.1 (by omega))
      · exact k.1 hm h
    · have h0 := hm.2.2.2.2
      obtain ⟨k, k'⟩ := kD h0
      rcases h with h | h
      · have h1 := sg_zero.2 h0
        exact k' (sg_zero.1 (by omega))
      · exact k.1 hm h
  · have h1 : sg (crs a b c d p q) ≠ sg (crs a b c d r s) := fun e => h (.inl e)
    have h2 : sg (crs p q r s a b) ≠ sg (crs p q r s c d) := fun e => h (.inr e)
    have hn : crs a b c d p q ≠ crs a b c d r s := fun e => h1 (by rw [e])
    have both : ∀ x y, Sh a b c d p q r s x y → crs a b c d x y = 0 ∧ crs p q r s x y = 0 := by
      intro x y hm
      rcases hm with ⟨hm, rfl, rfl⟩ | ⟨hm, rfl, rfl⟩ | ⟨hm, rfl, rfl⟩ | ⟨hm, rfl, rfl⟩
      · exact ⟨by unfold crs; grind, hm.2.2.2.2⟩
      · exact ⟨by unfold crs; grind, hm.2.2.2.2⟩
      · exact ⟨hm.2.2.2.2, by unfold crs; grind⟩
      · exact ⟨hm.2.2.2.2, by unfold crs; grind⟩
    have uniq : ∀ x y x' y', crs a b c d x y = 0 ∧ crs p q r s x y = 0 → crs a b c d x' y' = 0 ∧ crs p q r s x' y' = 0 → x' = x ∧ y' = y := by
      intro x y x' y' ⟨u1, u2⟩ ⟨u3, u4⟩
      have e1 : (crs a b c d r s - crs a b c d p q) * (x' - x) = 0 := by unfold crs at *; grind
      have e2 : (crs a b c d r s - crs a b c d p q) * (y' - y) = 0 := by unfold crs at *; grind
      refine ⟨?_, ?_⟩
      · rcases Int.mul_eq_zero.1 e1 with h | h <;> omega
      · rcases Int.mul_eq_zero.1 e2 with h | h <;> omega
    have one : ∃ x y, Sh a b c d p q r s x y := by
      rcases hz with h0 | h0 | h0 | h0
      · exact ⟨p, q, .inr (.inr (.inl ⟨(kC h0).1.2 h2, rfl, rfl⟩))⟩
      · exact ⟨r, s, .inr (.inr (.inr ⟨(kD h0).1.2 h2, rfl, rfl⟩))⟩
      · exact ⟨a, b, .inl ⟨(kA h0).1.2 h1, rfl, rfl⟩⟩
      · exact ⟨c, d, .inr (.inl ⟨(kB h0).1.2 h1, rfl, rfl⟩)⟩
    obtain ⟨x, y, hm⟩ := one
    exact ⟨x, y, hm, fun x' y' hm' => uniq x y x' y' (both x y hm) (both x' y' hm')⟩
  · rcases hm with ⟨hm, _⟩ | ⟨hm, _⟩ | ⟨hm, _⟩ | ⟨hm, _⟩
    · exact h (.inr (.inr (.inl hm.2.2.2.2)))
    · exact h (.inr (.inr (.inr hm.2.2.2.2)))
    · exact h (.inl hm.2.2.2.2)
    · exact h (.inr (.inl hm.2.2.2.2))
end Go.Proofs.YtbnjaaegbmhopaaGreatDoor
