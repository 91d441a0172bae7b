/- Segments: what the functions of chapter 5 give, by values. -/
import Derived.Test.YtbnjaaegbmhopaaGreatDoorSegGeo
import Derived.Test.YtbnjaaegbmhopaaGreatDoorVars
namespace Go.Proofs.YtbnjaaegbmhopaaGreatDoor
open Go.ChangeShapes Go.WideShapes Go.ChangeAt Go.RowKit
set_option linter.unusedVariables false

/-- A segment, as a value. -/
abbrev SegV (a b c d : Int) : Value := .agg #[.int .i64 a, .int .i64 b, .int .i64 c, .int .i64 d]
/-- Its cells. -/
abbrev SegC (a b c d : Int) : Array Value := #[.int .i64 a, .int .i64 b, .int .i64 c, .int .i64 d]
abbrev PtC (a b : Int) : Array Value := #[.int .i64 a, .int .i64 b]
theorem ext_min (a b : Int) : extV false a b = min a b := by unfold extV; simp; omega
theorem ext_max (a b : Int) : extV true a b = max a b := by unfold extV; simp; omega
/-- Is it a segment? -/
def isS (a b c d : Int) : Bool := isP2 a b c d && !decide (a = c ∧ b = d)
theorem isS_at {a b c d : Int} (h : isS a b c d = true) : (0 ≤ a ∧ a ≤ 200 ∧ 0 ≤ b ∧ b ≤ 200) ∧ (0 ≤ c ∧ c ≤ 200 ∧ 0 ≤ d ∧ d ≤ 200) ∧ (a ≠ c ∨ b ≠ d) := by
  simp only [isS, Bool.and_eq_true, Bool.not_eq_true', decide_eq_false_iff_not] at h
  obtain ⟨h1, h2⟩ := h
  obtain ⟨h3, h4⟩ := isP2_bd h1
  exact ⟨h3, h4, by omega⟩
theorem isS_of {a b c d : Int} (h : 0 ≤ a ∧ a ≤ 200 ∧ 0 ≤ b ∧ b ≤ 200) (h' : 0 ≤ c ∧ c ≤ 200 ∧ 0 ≤ d ∧ d ≤ 200) (hn : a ≠ c ∨ b ≠ d) : isS a b c d = true := by
  simp only [isS, isP2, Bool.and_eq_true, Bool.not_eq_true', decide_eq_false_iff_not]
  exact ⟨⟨isP_of h.1 h.2.1 h.2.2.1 h.2.2.2, isP_of h'.1 h'.2.1 h'.2.2.1 h'.2.2.2⟩, by omega⟩
theorem isS_turn (a b c d : Int) : isS c d a b = isS a b c d := by
  unfold isS isP2
  rw [Bool.and_comm (isP c d), decide_eq_decide.2 (show (c = a ∧ d = b) ↔ (a = c ∧ b = d) from ⟨fun h => ⟨h.1.symm, h.2.symm⟩, fun h => ⟨h.1.symm, h.2.symm⟩⟩)]
instance (a b c d x y : Int) : Decidable (On a b c d x y) := by unfold On; infer_instance
/-- Is the point on the segment? -/
def onV (a b c d x y : Int) : Bool := isS a b c d && decide (On a b c d x y)
theorem onV_iff {a b c d x y : Int} : onV a b c d x y = true ↔ isS a b c d = true ∧ On a b c d x y := by simp [onV]
theorem onV_no {a b c d x y : Int} (h : isS a b c d = false) : onV a b c d x y = false := by simp [onV, h]
theorem onV_turn (a b c d x y : Int) : onV c d a b x y = onV a b c d x y := by
  unfold onV; rw [isS_turn, decide_eq_decide.2 on_turn]
theorem on_bd {a b c d x y : Int} (h : isS a b c d = true) (ho : On a b c d x y) : 0 ≤ x ∧ x ≤ 200 ∧ 0 ≤ y ∧ y ≤ 200 := by
  obtain ⟨h1, h2, _⟩ := isS_at h
  obtain ⟨x0, x1, y0, y1, _⟩ := ho
  omega
/-- Is it on the segment, between its ends? -/
def betV (a b c d x y : Int) : Bool := onV a b c d x y && (!decide (x = a ∧ y = b) && !decide (x = c ∧ y = d))
theorem side_sg {a b c d x y : Int} (h : isP3 a b c d x y = true) : sideV a b c d x y = sg (crs a b c d x y) := by
  rw [side_yes h, cmp_of (z := crs a b c d x y) rfl]; rfl
theorem sides3 (a b c d x y : Int) : sideV a b c d x y = 1 ∨ sideV a b c d x y = 0 ∨ sideV a b c d x y = -1 := by
  unfold sideV; split
  · rcases cmp_bd ((c - a) * (y - b)) ((d - b) * (x - a)) with h | h | h <;> omega
  · exact .inr (.inl rfl)
/-- The boxes of both lie apart. -/
def Apart (a b c d p q r s : Int) : Prop := min (max a c) (max p r) < max (min a c) (min p r) ∨ min (max b d) (max q s) < max (min b d) (min q s)
instance (a b c d p q r s : Int) : Decidable (Apart a b c d p q r s) := by unfold Apart; infer_instance
/-- The box that both share is one point. -/
def Spot (a b c d p q r s : Int) : Prop := max (min a c) (min p r) = min (max a c) (max p r) ∧ max (min b d) (min q s) = min (max b d) (max q s)
instance (a b c d p q r s : Int) : Decidable (Spot a b c d p q r s) := by unfold Spot; infer_instance
/-- How two segments meet, by the signs f, g of the second's ends from the first and u, v of the first's from the second. -/
def markV (f g u v : Int) : Int := if f = g ∨ u = v then 0 else if f = 0 ∨ g = 0 ∨ u = 0 ∨ v = 0 then 1 else 2
/-- How two segments meet. -/
def howV (a b c d p q r s : Int) : Int :=
  if isS a b c d = true ∧ isS p q r s = true then
    if Apart a b c d p q r s then 0
    else if sideV a b c d p q = 0 ∧ sideV a b c d r s = 0 then (if Spot a b c d p q r s then 1 else 3)
    else markV (sideV a b c d p q) (sideV a b c d r s) (sideV p q r s a b) (sideV p q r s c d)
  else 0
/-- The different ends of both that are on the other one. -/
def addP (l : List (Int × Int)) (o : Bool) (x y : Int) : List (Int × Int) := if o = true ∧ (x, y) ∉ l then l ++ [(x, y)] else l
def shL (a b c d p q r s : Int) : List (Int × Int) :=
  addP (addP (addP (addP [] (onV p q r s a b) a b) (onV p q r s c d) c d) (onV a b c d p q) p q) (onV a b c d r s) r s
theorem mem_addP {l : List (Int × Int)} {o : Bool} {x y u v : Int} : (u, v) ∈ addP l o x y ↔ (u, v) ∈ l ∨ (o = true ∧ u = x ∧ v = y) := by
  unfold addP; split
  · rename_i h
    simp only [List.mem_append, List.mem_singleton, Prod.mk.injEq]
    exact ⟨fun k => k.imp id fun k => ⟨h.1, k⟩, fun k => k.imp id fun k => k.2⟩
  · rename_i h
    refine ⟨.inl, fun k => k.elim id fun k => ?_⟩
    obtain ⟨h1, rfl, rfl⟩ := k
    exact Classical.byContradiction fun hn => h ⟨h1, hn⟩
theorem nodup_addP {l : List (Int × Int)} {o : Bool} {x y : Int} (h : l.Nodup) : (addP l o x y).Nodup := by
  unfold addP; split
  · rename_i k
    rw [List.nodup_append]
    refine ⟨h, by simp, fun a ha b hb => ?_⟩
    simp at hb; subst hb
    intro e; subst e; exact k.2 ha
  · exact h
theorem shL_nodup (a b c d p q r s : Int) : (shL a b c d p q r s).Nodup := nodup_addP (nodup_addP (nodup_addP (nodup_addP List.nodup_nil)))
theorem mem_shL {a b c d p q r s x y : Int} (hs : isS a b c d = true) (ht : isS p q r s = true) : (x, y) ∈ shL a b c d p q r s ↔ Sh a b c d p q r s x y := by
  unfold shL Sh Mem
  rw [mem_addP, mem_addP, mem_addP, mem_addP]
  simp [onV, hs, ht]
  grind
theorem len_none {l : List (Int × Int)} (h : ∀ x y, (x, y) ∉ l) : l.length = 0 := by
  match l, h with
  | [], _ => rfl
  | (x, y) :: r, h => exact absurd (List.mem_cons_self) (h x y)
theorem len_one {l : List (Int × Int)} (hn : l.Nodup) {x y : Int} (h : (x, y) ∈ l) (ha : ∀ u v, (u, v) ∈ l → u = x ∧ v = y) : l.length = 1 := by
  match l, h, hn, ha with
  | [z], _, _, _ => rfl
  | (u, v) :: (u', v') :: r, _, hn, ha =>
    obtain ⟨rfl, rfl⟩ := ha u v (by simp)
    obtain ⟨rfl, rfl⟩ := ha u' v' (by simp)
    simp at hn
theorem len_many {l : List (Int × Int)} {x y u v : Int} (h : (x, y) ∈ l) (h' : (u, v) ∈ l) (hne : ¬ (x = u ∧ y = v)) : 2 ≤ l.length := by
  match l, h, h' with
  | [z], h, h' =>
    simp only [List.mem_singleton] at h h'
    rw [← h] at h'
    simp only [Prod.mk.injEq] at h'
    exact absurd ⟨h'.1.symm, h'.2.symm⟩ hne
  | z :: z' :: r, _, _ => simp
theorem how_no {a b c d p q r s : Int} (h : ¬ (isS a b c d = true ∧ isS p q r s = true)) : howV a b c d p q r s = 0 := by unfold howV; rw [if_neg h]
theorem how_apart {a b c d p q r s : Int} (h : Apart a b c d p q r s) : howV a b c d p q r s = 0 := by unfold howV; split <;> rfl
theorem isP3_of {a b c d x y : Int} (h : 0 ≤ a ∧ a ≤ 200 ∧ 0 ≤ b ∧ b ≤ 200) (h' : 0 ≤ c ∧ c ≤ 200 ∧ 0 ≤ d ∧ d ≤ 200) (h'' : 0 ≤ x ∧ x ≤ 200 ∧ 0 ≤ y ∧ y ≤ 200) : isP3 a b c d x y = true := by
  simp only [isP3, Bool.and_eq_true]
  exact ⟨isP_of h.1 h.2.1 h.2.2.1 h.2.2.2, isP_of h'.1 h'.2.1 h'.2.2.1 h'.2.2.2, isP_of h''.1 h''.2.1 h''.2.2.1 h''.2.2.2⟩
/-- The four signs of two segments. -/
theorem signs {a b c d p q r s : Int} (hs : isS a b c d = true) (ht : isS p q r s = true) :
    sideV a b c d p q = sg (crs a b c d p q) ∧ sideV a b c d r s = sg (crs a b c d r s) ∧ sideV p q r s a b = sg (crs p q r s a b) ∧ sideV p q r s c d = sg (crs p q r s c d) := by
  obtain ⟨h1, h2, _⟩ := isS_at hs
  obtain ⟨h3, h4, _⟩ := isS_at ht
  exact ⟨side_sg (isP3_of h1 h2 h3), side_sg (isP3_of h1 h2 h4), side_sg (isP3_of h3 h4 h1), side_sg (isP3_of h3 h4 h2)⟩
/-- How two segments meet, by the number of the different ends that are on the other one. -/
theorem how_count {a b c d p q r s : Int} (hs : isS a b c d = true) (ht : isS p q r s = true) (hx : ¬ Apart a b c d p q r s) :
    ((shL a b c d p q r s).length = 0 ∧ (sideV a b c d p q * sideV a b c d r s < 0 ∧ sideV p q r s a b * sideV p q r s c d < 0) ∧ howV a b c d p q r s = 2) ∨
    ((shL a b c d p q r s).length = 0 ∧ ¬ (sideV a b c d p q * sideV a b c d r s < 0 ∧ sideV p q r s a b * sideV p q r s c d < 0) ∧ howV a b c d p q r s = 0) ∨
    ((shL a b c d p q r s).length = 1 ∧ howV a b c d p q r s = 1) ∨ (2 ≤ (shL a b c d p q r s).length ∧ howV a b c d p q r s = 3) := by
  have hm := fun x y => mem_shL (x := x) (y := y) hs ht
  have hn := shL_nodup a b c d p q r s
  obtain ⟨g1, g2, g3, g4⟩ := signs hs ht
  obtain ⟨h1, h2, k1⟩ := isS_at hs
  obtain ⟨h3, h4, k2⟩ := isS_at ht
  have one (h : Single (Sh a b c d p q r s)) : (shL a b c d p q r s).length = 1 := by
    obtain ⟨x, y, m, ha⟩ := h
    exact len_one hn ((hm x y).2 m) fun u v k => ha u v ((hm u v).1 k)
  have many (h : Many (Sh a b c d p q r s)) : 2 ≤ (shL a b c d p q r s).length := by
    obtain ⟨x, y, u, v, m, m', hne⟩ := h
    exact len_many ((hm x y).2 m) ((hm u v).2 m') hne
  have none (h : ∀ x y, ¬ Sh a b c d p q r s x y) : (shL a b c d p q r s).length = 0 := len_none fun x y k => h x y ((hm x y).1 k)
  unfold howV
  rw [if_pos ⟨hs, ht⟩, if_neg hx, g1, g2, g3, g4]
  have hx' : max (min a c) (min p r) ≤ min (max a c) (max p r) ∧ max (min b d) (min q s) ≤ min (max b d) (max q s) := by unfold Apart at hx; omega
  by_cases hf : crs a b c d p q = 0 ∧ crs a b c d r s = 0
  · rw [if_pos ⟨sg_zero.2 hf.1, sg_zero.2 hf.2⟩]
    obtain ⟨m1, m2⟩ := col_any k1 k2 hf.1 hf.2 hx'.1 hx'.2
    by_cases hz : Spot a b c d p q r s
    · rw [if_pos hz]
      exact .inr (.inr (.inl ⟨one (m1 hz), rfl⟩))
    · rw [if_neg hz]
      exact .inr (.inr (.inr ⟨many (m2 hz), rfl⟩))
  · rw [if_neg (fun h => hf ⟨sg_zero.1 h.1, sg_zero.1 h.2⟩)]
    obtain ⟨m1, m2, m3⟩ := cut_any k1 k2 hf
    unfold markV
    by_cases hw : sg (crs a b c d p q) = sg (crs a b c d r s) ∨ sg (crs p q r s a b) = sg (crs p q r s c d)
    · rw [if_pos hw]
      refine .inr (.inl ⟨none (m1 hw), fun h => ?_, rfl⟩)
      rcases hw with hw | hw
      · rw [hw] at h
        rcases sg_cases (crs a b c d r s) with k | k | k <;> rw [k.1] at h <;> simp at h
      · rw [hw] at h
        rcases sg_cases (crs p q r s c d) with k | k | k <;> rw [k.1] at h <;> simp at h
    · rw [if_neg hw]
      by_cases hz : crs a b c d p q = 0 ∨ crs a b c d r s = 0 ∨ crs p q r s a b = 0 ∨ crs p q r s c d = 0
      · rw [if_pos (by rw [sg_zero, sg_zero, sg_zero, sg_zero]; exact hz)]
        exact .inr (.inr (.inl ⟨one (m2 hw hz), rfl⟩))
      · rw [if_neg (by rw [sg_zero, sg_zero, sg_zero, sg_zero]; exact hz)]
        refine .inl ⟨none (m3 hz), ?_, rfl⟩
        clear m1 m2 m3 one many none hm hn
        rcases sg_cases (crs a b c d p q) with k | k | k <;> rcases sg_cases (crs a b c d r s) with k' | k' | k' <;> rcases sg_cases (crs p q r s a b) with j | j | j <;> rcases sg_cases (crs p q r s c d) with j' | j' | j' <;>
          rw [k.1, k'.1, j.1, j'.1] at hw ⊢ <;> first | omega | (exact absurd k.2 (by omega))
/-- It does not depend on their order. -/
theorem how_comm (a b c d p q r s : Int) : howV p q r s a b c d = howV a b c d p q r s := by
  unfold howV
  by_cases h : isS a b c d = true ∧ isS p q r s = true
  · obtain ⟨g1, g2, g3, g4⟩ := signs h.1 h.2
    obtain ⟨h1, h2, k1⟩ := isS_at h.1
    obtain ⟨h3, h4, k2⟩ := isS_at h.2
    rw [if_pos h, if_pos ⟨h.2, h.1⟩]
    have e1 : Apart p q r s a b c d ↔ Apart a b c d p q r s := by unfold Apart; rw [Int.min_comm (max p r), Int.max_comm (min p r), Int.min_comm (max q s), Int.max_comm (min q s)]
    have e2 : Spot p q r s a b c d ↔ Spot a b c d p q r s := by unfold Spot; rw [Int.min_comm (max p r), Int.max_comm (min p r), Int.min_comm (max q s), Int.max_comm (min q s)]
    have e3 : (sideV p q r s a b = 0 ∧ sideV p q r s c d = 0) ↔ (sideV a b c d p q = 0 ∧ sideV a b c d r s = 0) := by
      rw [g1, g2, g3, g4, sg_zero, sg_zero, sg_zero, sg_zero]
      exact ⟨fun h => cross_zero k2 h.1 h.2, fun h => cross_zero k1 h.1 h.2⟩
    have e4 (f g u v : Int) : markV u v f g = markV f g u v := by unfold markV; grind
    simp only [e1, e2, e3, e4]
  · rw [if_neg h, if_neg (fun k => h ⟨k.2, k.1⟩)]
/-- It does not depend on their direction. -/
theorem how_turn (a b c d p q r s : Int) : howV c d a b p q r s = howV a b c d p q r s := by
  unfold howV
  by_cases h : isS a b c d = true ∧ isS p q r s = true
  · obtain ⟨g1, g2, g3, g4⟩ := signs h.1 h.2
    obtain ⟨j1, j2, j3, j4⟩ := signs (a := c) (b := d) (c := a) (d := b) (by rw [isS_turn]; exact h.1) h.2
    rw [if_pos h, if_pos (by rw [isS_turn]; exact h)]
    have e1 : Apart c d a b p q r s ↔ Apart a b c d p q r s := by unfold Apart; rw [Int.min_comm c, Int.max_comm c, Int.min_comm d, Int.max_comm d]
    have e2 : Spot c d a b p q r s ↔ Spot a b c d p q r s := by unfold Spot; rw [Int.min_comm c, Int.max_comm c, Int.min_comm d, Int.max_comm d]
    rw [j1, j2, g1, g2, g3, g4, crs_turn a b c d p q, crs_turn a b c d r s, sg_neg, sg_neg]
    have e3 (f g : Int) : (-f = 0 ∧ -g = 0) ↔ (f = 0 ∧ g = 0) := by omega
    have e4 (f g u v : Int) : markV (-f) (-g) v u = markV f g u v := by unfold markV; grind
    simp only [e1, e2, e3, e4]
  · rw [if_neg h, if_neg (by rw [isS_turn]; exact h)]
theorem how_turn2 (a b c d p q r s : Int) : howV a b c d r s p q = howV a b c d p q r s := by
  rw [how_comm, how_turn, how_comm]
theorem how_bd (a b c d p q r s : Int) : 0 ≤ howV a b c d p q r s ∧ howV a b c d p q r s ≤ 3 := by
  unfold howV markV; grind
/-- The ends of a segment are on it. -/
theorem on_ends {a b c d : Int} (h : isS a b c d = true) : onV a b c d a b = true ∧ onV a b c d c d = true ∧ betV a b c d a b = false := by
  refine ⟨onV_iff.2 ⟨h, by omega, by omega, by omega, by omega, by unfold crs; grind⟩, onV_iff.2 ⟨h, by omega, by omega, by omega, by omega, by unfold crs; grind⟩, ?_⟩
  simp [betV]
/-- A segment lies along itself. -/
theorem how_self {a b c d : Int} (h : isS a b c d = true) : howV a b c d a b c d = 3 := by
  obtain ⟨g1, g2, g3, g4⟩ := signs h h
  obtain ⟨h1, h2, k1⟩ := isS_at h
  unfold howV
  rw [if_pos ⟨h, h⟩, if_neg (by unfold Apart; omega), if_pos (by rw [g1, g2, sg_zero, sg_zero]; exact ⟨by unfold crs; grind, by unfold crs; grind⟩), if_neg (by unfold Spot; omega)]
/-- An end on the other one: both touch or lie along one another. -/
theorem how_on {a b c d p q r s x y : Int} (hs : isS a b c d = true) (ht : isS p q r s = true) (h : Sh a b c d p q r s x y) : howV a b c d p q r s = 1 ∨ howV a b c d p q r s = 3 := by
  have hm := (mem_shL hs ht).2 h
  have hl : (shL a b c d p q r s).length ≠ 0 := fun e => by
    rw [List.length_eq_zero_iff] at e; rw [e] at hm; simp at hm
  have hx : ¬ Apart a b c d p q r s := by
    unfold Apart
    rcases h with ⟨h, rfl, rfl⟩ | ⟨h, rfl, rfl⟩ | ⟨h, rfl, rfl⟩ | ⟨h, rfl, rfl⟩ <;> (obtain ⟨x0, x1, y0, y1, _⟩ := h; omega)
  rcases how_count hs ht hx with k | k | k | k <;> omega
/-- An end on the other one, by values. -/
theorem how_onV {a b c d p q r s : Int} (hs : isS a b c d = true) (ht : isS p q r s = true) (h : onV p q r s a b = true ∨ onV p q r s c d = true ∨ onV a b c d p q = true ∨ onV a b c d r s = true) : howV a b c d p q r s = 1 ∨ howV a b c d p q r s = 3 := by
  rcases h with h | h | h | h
  · exact how_on hs ht (.inl ⟨(onV_iff.1 h).2, rfl, rfl⟩)
  · exact how_on hs ht (.inr (.inl ⟨(onV_iff.1 h).2, rfl, rfl⟩))
  · exact how_on hs ht (.inr (.inr (.inl ⟨(onV_iff.1 h).2, rfl, rfl⟩)))
  · exact how_on hs ht (.inr (.inr (.inr ⟨(onV_iff.1 h).2, rfl, rfl⟩)))
end Go.Proofs.YtbnjaaegbmhopaaGreatDoor
