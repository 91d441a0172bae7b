/- Texts of this seat, one behind the other. -/
import Derived.Test.YtkeljibnjpinlaaDoorB2
import Derived.Test.YtkeljibnjpinlaaDoorB1
import Derived.Below
import Derived.WalkSmall
import Derived.RegionTactic
import Derived.ChangeAlike
import Derived.Deep.QuietTactic
import Derived.BigQuiet
import Derived.IntWalk
import Derived.OneCell
import Derived.Laws.BitsLemmas
import Derived.Laws.Rows
import Derived.Lib.Hide
/- Segments: what the functions of chapter 5 give, by values. -/
namespace Go.Proofs.YtkeljibnjpinlaaDoor
open Go.ChangeShapes Go.WideShapes Go.ChangeAt Go.RowKit
set_option linter.unusedVariables false

/-- A segment, as a value. -/
abbrev SegV (a b c d : Int) : Value := .agg #[.int .i64 a, .int .i64 b, .int .i64 c, .int .i64 d]
/-- Its cells. -/
abbrev SegC (a b c d : Int) : Array Value := #[.int .i64 a, .int .i64 b, .int .i64 c, .int .i64 d]
abbrev PtC (a b : Int) : Array Value := #[.int .i64 a, .int .i64 b]
theorem ext_min (a b : Int) : extV false a b = min a b := by unfold extV; simp; omega
theorem ext_max (a b : Int) : extV true a b = max a b := by unfold extV; simp; omega
/-- Is it a segment? -/
def isS (a b c d : Int) : Bool := isP2 a b c d && !decide (a = c ∧ b = d)
theorem isS_at {a b c d : Int} (h : isS a b c d = true) : (0 ≤ a ∧ a ≤ 200 ∧ 0 ≤ b ∧ b ≤ 200) ∧ (0 ≤ c ∧ c ≤ 200 ∧ 0 ≤ d ∧ d ≤ 200) ∧ (a ≠ c ∨ b ≠ d) := by
  simp only [isS, Bool.and_eq_true, Bool.not_eq_true', decide_eq_false_iff_not] at h
  obtain ⟨h1, h2⟩ := h
  obtain ⟨h3, h4⟩ := isP2_bd h1
  exact ⟨h3, h4, by omega⟩
theorem isS_of {a b c d : Int} (h : 0 ≤ a ∧ a ≤ 200 ∧ 0 ≤ b ∧ b ≤ 200) (h' : 0 ≤ c ∧ c ≤ 200 ∧ 0 ≤ d ∧ d ≤ 200) (hn : a ≠ c ∨ b ≠ d) : isS a b c d = true := by
  simp only [isS, isP2, Bool.and_eq_true, Bool.not_eq_true', decide_eq_false_iff_not]
  exact ⟨⟨isP_of h.1 h.2.1 h.2.2.1 h.2.2.2, isP_of h'.1 h'.2.1 h'.2.2.1 h'.2.2.2⟩, by omega⟩
theorem isS_turn (a b c d : Int) : isS c d a b = isS a b c d := by
  unfold isS isP2
  rw [Bool.and_comm (isP c d), decide_eq_decide.2 (show (c = a ∧ d = b) ↔ (a = c ∧ b = d) from ⟨fun h => ⟨h.1.symm, h.2.symm⟩, fun h => ⟨h.1.symm, h.2.symm⟩⟩)]
instance (a b c d x y : Int) : Decidable (On a b c d x y) := by unfold On; infer_instance
/-- Is the point on the segment? -/
def onV (a b c d x y : Int) : Bool := isS a b c d && decide (On a b c d x y)
theorem onV_iff {a b c d x y : Int} : onV a b c d x y = true ↔ isS a b c d = true ∧ On a b c d x y := by simp [onV]
theorem onV_no {a b c d x y : Int} (h : isS a b c d = false) : onV a b c d x y = false := by simp [onV, h]
theorem onV_turn (a b c d x y : Int) : onV c d a b x y = onV a b c d x y := by
  unfold onV; rw [isS_turn, decide_eq_decide.2 on_turn]
theorem on_bd {a b c d x y : Int} (h : isS a b c d = true) (ho : On a b c d x y) : 0 ≤ x ∧ x ≤ 200 ∧ 0 ≤ y ∧ y ≤ 200 := by
  obtain ⟨h1, h2, _⟩ := isS_at h
  obtain ⟨x0, x1, y0, y1, _⟩ := ho
  omega
/-- Is it on the segment, between its ends? -/
def betV (a b c d x y : Int) : Bool := onV a b c d x y && (!decide (x = a ∧ y = b) && !decide (x = c ∧ y = d))
theorem side_sg {a b c d x y : Int} (h : isP3 a b c d x y = true) : sideV a b c d x y = sg (crs a b c d x y) := by
  rw [side_yes h, cmp_of (z := crs a b c d x y) rfl]; rfl
theorem sides3 (a b c d x y : Int) : sideV a b c d x y = 1 ∨ sideV a b c d x y = 0 ∨ sideV a b c d x y = -1 := by
  unfold sideV; split
  · rcases cmp_bd ((c - a) * (y - b)) ((d - b) * (x - a)) with h | h | h <;> omega
  · exact .inr (.inl rfl)
/-- The boxes of both lie apart. -/
def Apart (a b c d p q r s : Int) : Prop := min (max a c) (max p r) < max (min a c) (min p r) ∨ min (max b d) (max q s) < max (min b d) (min q s)
instance (a b c d p q r s : Int) : Decidable (Apart a b c d p q r s) := by unfold Apart; infer_instance
/-- The box that both share is one point. -/
def Spot (a b c d p q r s : Int) : Prop := max (min a c) (min p r) = min (max a c) (max p r) ∧ max (min b d) (min q s) = min (max b d) (max q s)
instance (a b c d p q r s : Int) : Decidable (Spot a b c d p q r s) := by unfold Spot; infer_instance
/-- How two segments meet, by the signs f, g of the second's ends from the first and u, v of the first's from the second. -/
def markV (f g u v : Int) : Int := if f = g ∨ u = v then 0 else if f = 0 ∨ g = 0 ∨ u = 0 ∨ v = 0 then 1 else 2
/-- How two segments meet. -/
def howV (a b c d p q r s : Int) : Int :=
  if isS a b c d = true ∧ isS p q r s = true then
    if Apart a b c d p q r s then 0
    else if sideV a b c d p q = 0 ∧ sideV a b c d r s = 0 then (if Spot a b c d p q r s then 1 else 3)
    else markV (sideV a b c d p q) (sideV a b c d r s) (sideV p q r s a b) (sideV p q r s c d)
  else 0
/-- The different ends of both that are on the other one. -/
def addP (l : List (Int × Int)) (o : Bool) (x y : Int) : List (Int × Int) := if o = true ∧ (x, y) ∉ l then l ++ [(x, y)] else l
def shL (a b c d p q r s : Int) : List (Int × Int) :=
  addP (addP (addP (addP [] (onV p q r s a b) a b) (onV p q r s c d) c d) (onV a b c d p q) p q) (onV a b c d r s) r s
theorem mem_addP {l : List (Int × Int)} {o : Bool} {x y u v : Int} : (u, v) ∈ addP l o x y ↔ (u, v) ∈ l ∨ (o = true ∧ u = x ∧ v = y) := by
  unfold addP; split
  · rename_i h
    simp only [List.mem_append, List.mem_singleton, Prod.mk.injEq]
    exact ⟨fun k => k.imp id fun k => ⟨h.1, k⟩, fun k => k.imp id fun k => k.2⟩
  · rename_i h
    refine ⟨.inl, fun k => k.elim id fun k => ?_⟩
    obtain ⟨h1, rfl, rfl⟩ := k
    exact Classical.byContradiction fun hn => h ⟨h1, hn⟩
theorem nodup_addP {l : List (Int × Int)} {o : Bool} {x y : Int} (h : l.Nodup) : (addP l o x y).Nodup := by
  unfold addP; split
  · rename_i k
    rw [List.nodup_append]
    refine ⟨h, by simp, fun a ha b hb => ?_⟩
    simp at hb; subst hb
    intro e; subst e; exact k.2 ha
  · exact h
theorem shL_nodup (a b c d p q r s : Int) : (shL a b c d p q r s).Nodup := nodup_addP (nodup_addP (nodup_addP (nodup_addP List.nodup_nil)))
theorem mem_shL {a b c d p q r s x y : Int} (hs : isS a b c d = true) (ht : isS p q r s = true) : (x, y) ∈ shL a b c d p q r s ↔ Sh a b c d p q r s x y := by
  unfold shL Sh Mem
  rw [mem_addP, mem_addP, mem_addP, mem_addP]
  simp [onV, hs, ht]
  grind
theorem len_none {l : List (Int × Int)} (h : ∀ x y, (x, y) ∉ l) : l.length = 0 := by
  match l, h with
  | [], _ => rfl
  | (x, y) :: r, h => exact absurd (List.mem_cons_self) (h x y)
theorem len_one {l : List (Int × Int)} (hn : l.Nodup) {x y : Int} (h : (x, y) ∈ l) (ha : ∀ u v, (u, v) ∈ l → u = x ∧ v = y) : l.length = 1 := by
  match l, h, hn, ha with
  | [z], _, _, _ => rfl
  | (u, v) :: (u', v') :: r, _, hn, ha =>
    obtain ⟨rfl, rfl⟩ := ha u v (by simp)
    obtain ⟨rfl, rfl⟩ := ha u' v' (by simp)
    simp at hn
theorem len_many {l : List (Int × Int)} {x y u v : Int} (h : (x, y) ∈ l) (h' : (u, v) ∈ l) (hne : ¬ (x = u ∧ y = v)) : 2 ≤ l.length := by
  match l, h, h' with
  | [z], h, h' =>
    simp only [List.mem_singleton] at h h'
    rw [← h] at h'
    simp only [Prod.mk.injEq] at h'
    exact absurd ⟨h'.1.symm, h'.2.symm⟩ hne
  | z :: z' :: r, _, _ => simp
theorem how_no {a b c d p q r s : Int} (h : ¬ (isS a b c d = true ∧ isS p q r s = true)) : howV a b c d p q r s = 0 := by unfold howV; rw [if_neg h]
theorem how_apart {a b c d p q r s : Int} (h : Apart a b c d p q r s) : howV a b c d p q r s = 0 := by unfold howV; split <;> rfl
theorem isP3_of {a b c d x y : Int} (h : 0 ≤ a ∧ a ≤ 200 ∧ 0 ≤ b ∧ b ≤ 200) (h' : 0 ≤ c ∧ c ≤ 200 ∧ 0 ≤ d ∧ d ≤ 200) (h'' : 0 ≤ x ∧ x ≤ 200 ∧ 0 ≤ y ∧ y ≤ 200) : isP3 a b c d x y = true := by
  simp only [isP3, Bool.and_eq_true]
  exact ⟨isP_of h.1 h.2.1 h.2.2.1 h.2.2.2, isP_of h'.1 h'.2.1 h'.2.2.1 h'.2.2.2, isP_of h''.1 h''.2.1 h''.2.2.1 h''.2.2.2⟩
/-- The four signs of two segments. -/
theorem signs {a b c d p q r s : Int} (hs : isS a b c d = true) (ht : isS p q r s = true) :
    sideV a b c d p q = sg (crs a b c d p q) ∧ sideV a b c d r s = sg (crs a b c d r s) ∧ sideV p q r s a b = sg (crs p q r s a b) ∧ sideV p q r s c d = sg (crs p q r s c d) := by
  obtain ⟨h1, h2, _⟩ := isS_at hs
  obtain ⟨h3, h4, _⟩ := isS_at ht
  exact ⟨side_sg (isP3_of h1 h2 h3), side_sg (isP3_of h1 h2 h4), side_sg (isP3_of h3 h4 h1), side_sg (isP3_of h3 h4 h2)⟩
/-- How two segments meet, by the number of the different ends that are on the other one. -/
theorem how_count {a b c d p q r s : Int} (hs : isS a b c d = true) (ht : isS p q r s = true) (hx : ¬ Apart a b c d p q r s) :
    ((shL a b c d p q r s).length = 0 ∧ (sideV a b c d p q * sideV a b c d r s < 0 ∧ sideV p q r s a b * sideV p q r s c d < 0) ∧ howV a b c d p q r s = 2) ∨
    ((shL a b c d p q r s).length = 0 ∧ ¬ (sideV a b c d p q * sideV a b c d r s < 0 ∧ sideV p q r s a b * sideV p q r s c d < 0) ∧ howV a b c d p q r s = 0) ∨
    ((shL a b c d p q r s).length = 1 ∧ howV a b c d p q r s = 1) ∨ (2 ≤ (shL a b c d p q r s).length ∧ howV a b c d p q r s = 3) := by
  have hm := fun x y => mem_shL (x := x) (y := y) hs ht
  have hn := shL_nodup a b c d p q r s
  obtain ⟨g1, g2, g3, g4⟩ := signs hs ht
  obtain ⟨h1, h2, k1⟩ := isS_at hs
  obtain ⟨h3, h4, k2⟩ := isS_at ht
  have one (h : Single (Sh a b c d p q r s)) : (shL a b c d p q r s).length = 1 := by
    obtain ⟨x, y, m, ha⟩ := h
    exact len_one hn ((hm x y).2 m) fun u v k => ha u v ((hm u v).1 k)
  have many (h : Many (Sh a b c d p q r s)) : 2 ≤ (shL a b c d p q r s).length := by
    obtain ⟨x, y, u, v, m, m', hne⟩ := h
    exact len_many ((hm x y).2 m) ((hm u v).2 m') hne
  have none (h : ∀ x y, ¬ Sh a b c d p q r s x y) : (shL a b c d p q r s).length = 0 := len_none fun x y k => h x y ((hm x y).1 k)
  unfold howV
  rw [if_pos ⟨hs, ht⟩, if_neg hx, g1, g2, g3, g4]
  have hx' : max (min a c) (min p r) ≤ min (max a c) (max p r) ∧ max (min b d) (min q s) ≤ min (max b d) (max q s) := by unfold Apart at hx; omega
  by_cases hf : crs a b c d p q = 0 ∧ crs a b c d r s = 0
  · rw [if_pos ⟨sg_zero.2 hf.1, sg_zero.2 hf.2⟩]
    obtain ⟨m1, m2⟩ := col_any k1 k2 hf.1 hf.2 hx'.1 hx'.2
    by_cases hz : Spot a b c d p q r s
    · rw [if_pos hz]
      exact .inr (.inr (.inl ⟨one (m1 hz), rfl⟩))
    · rw [if_neg hz]
      exact .inr (.inr (.inr ⟨many (m2 hz), rfl⟩))
  · rw [if_neg (fun h => hf ⟨sg_zero.1 h.1, sg_zero.1 h.2⟩)]
    obtain ⟨m1, m2, m3⟩ := cut_any k1 k2 hf
    unfold markV
    by_cases hw : sg (crs a b c d p q) = sg (crs a b c d r s) ∨ sg (crs p q r s a b) = sg (crs p q r s c d)
    · rw [if_pos hw]
      refine .inr (.inl ⟨none (m1 hw), fun h => ?_, rfl⟩)
      rcases hw with hw | hw
      · rw [hw] at h
        rcases sg_cases (crs a b c d r s) with k | k | k <;> rw [k.1] at h <;> simp at h
      · rw [hw] at h
        rcases sg_cases (crs p q r s c d) with k | k | k <;> rw [k.1] at h <;> simp at h
    · rw [if_neg hw]
      by_cases hz : crs a b c d p q = 0 ∨ crs a b c d r s = 0 ∨ crs p q r s a b = 0 ∨ crs p q r s c d = 0
      · rw [if_pos (by rw [sg_zero, sg_zero, sg_zero, sg_zero]; exact hz)]
        exact .inr (.inr (.inl ⟨one (m2 hw hz), rfl⟩))
      · rw [if_neg (by rw [sg_zero, sg_zero, sg_zero, sg_zero]; exact hz)]
        refine .inl ⟨none (m3 hz), ?_, rfl⟩
        clear m1 m2 m3 one many none hm hn
        rcases sg_cases (crs a b c d p q) with k | k | k <;> rcases sg_cases (crs a b c d r s) with k' | k' | k' <;> rcases sg_cases (crs p q r s a b) with j | j | j <;> rcases sg_cases (crs p q r s c d) with j' | j' | j' <;>
          rw [k.1, k'.1, j.1, j'.1] at hw ⊢ <;> first | omega | (exact absurd k.2 (by omega))
/-- It does not depend on their order. -/
theorem how_comm (a b c d p q r s : Int) : howV p q r s a b c d = howV a b c d p q r s := by
  unfold howV
  by_cases h : isS a b c d = true ∧ isS p q r s = true
  · obtain ⟨g1, g2, g3, g4⟩ := signs h.1 h.2
    obtain ⟨h1, h2, k1⟩ := isS_at h.1
    obtain ⟨h3, h4, k2⟩ := isS_at h.2
    rw [if_pos h, if_pos ⟨h.2, h.1⟩]
    have e1 : Apart p q r s a b c d ↔ Apart a b c d p q r s := by unfold Apart; rw [Int.min_comm (max p r), Int.max_comm (min p r), Int.min_comm (max q s), Int.max_comm (min q s)]
    have e2 : Spot p q r s a b c d ↔ Spot a b c d p q r s := by unfold Spot; rw [Int.min_comm (max p r), Int.max_comm (min p r), Int.min_comm (max q s), Int.max_comm (min q s)]
    have e3 : (sideV p q r s a b = 0 ∧ sideV p q r s c d = 0) ↔ (sideV a b c d p q = 0 ∧ sideV a b c d r s = 0) := by
      rw [g1, g2, g3, g4, sg_zero, sg_zero, sg_zero, sg_zero]
      exact ⟨fun h => cross_zero k2 h.1 h.2, fun h => cross_zero k1 h.1 h.2⟩
    have e4 (f g u v : Int) : markV u v f g = markV f g u v := by unfold markV; grind
    simp only [e1, e2, e3, e4]
  · rw [if_neg h, if_neg (fun k => h ⟨k.2, k.1⟩)]
/-- It does not depend on their direction. -/
theorem how_turn (a b c d p q r s : Int) : howV c d a b p q r s = howV a b c d p q r s := by
  unfold howV
  by_cases h : isS a b c d = true ∧ isS p q r s = true
  · obtain ⟨g1, g2, g3, g4⟩ := signs h.1 h.2
    obtain ⟨j1, j2, j3, j4⟩ := signs (a := c) (b := d) (c := a) (d := b) (by rw [isS_turn]; exact h.1) h.2
    rw [if_pos h, if_pos (by rw [isS_turn]; exact h)]
    have e1 : Apart c d a b p q r s ↔ Apart a b c d p q r s := by unfold Apart; rw [Int.min_comm c, Int.max_comm c, Int.min_comm d, Int.max_comm d]
    have e2 : Spot c d a b p q r s ↔ Spot a b c d p q r s := by unfold Spot; rw [Int.min_comm c, Int.max_comm c, Int.min_comm d, Int.max_comm d]
    rw [j1, j2, g1, g2, g3, g4, crs_turn a b c d p q, crs_turn a b c d r s, sg_neg, sg_neg]
    have e3 (f g : Int) : (-f = 0 ∧ -g = 0) ↔ (f = 0 ∧ g = 0) := by omega
    have e4 (f g u v : Int) : markV (-f) (-g) v u = markV f g u v := by unfold markV; grind
    simp only [e1, e2, e3, e4]
  · rw [if_neg h, if_neg (by rw [isS_turn]; exact h)]
theorem how_turn2 (a b c d p q r s : Int) : howV a b c d r s p q = howV a b c d p q r s := by
  rw [how_comm, how_turn, how_comm]
theorem how_bd (a b c d p q r s : Int) : 0 ≤ howV a b c d p q r s ∧ howV a b c d p q r s ≤ 3 := by
  unfold howV markV; grind
/-- The ends of a segment are on it. -/
theorem on_ends {a b c d : Int} (h : isS a b c d = true) : onV a b c d a b = true ∧ onV a b c d c d = true ∧ betV a b c d a b = false := by
  refine ⟨onV_iff.2 ⟨h, by omega, by omega, by omega, by omega, by unfold crs; grind⟩, onV_iff.2 ⟨h, by omega, by omega, by omega, by omega, by unfold crs; grind⟩, ?_⟩
  simp [betV]
/-- A segment lies along itself. -/
theorem how_self {a b c d : Int} (h : isS a b c d = true) : howV a b c d a b c d = 3 := by
  obtain ⟨g1, g2, g3, g4⟩ := signs h h
  obtain ⟨h1, h2, k1⟩ := isS_at h
  unfold howV
  rw [if_pos ⟨h, h⟩, if_neg (by unfold Apart; omega), if_pos (by rw [g1, g2, sg_zero, sg_zero]; exact ⟨by unfold crs; grind, by unfold crs; grind⟩), if_neg (by unfold Spot; omega)]
/-- An end on the other one: both touch or lie along one another. -/
theorem how_on {a b c d p q r s x y : Int} (hs : isS a b c d = true) (ht : isS p q r s = true) (h : Sh a b c d p q r s x y) : howV a b c d p q r s = 1 ∨ howV a b c d p q r s = 3 := by
  have hm := (mem_shL hs ht).2 h
  have hl : (shL a b c d p q r s).length ≠ 0 := fun e => by
    rw [List.length_eq_zero_iff] at e; rw [e] at hm; simp at hm
  have hx : ¬ Apart a b c d p q r s := by
    unfold Apart
    rcases h with ⟨h, rfl, rfl⟩ | ⟨h, rfl, rfl⟩ | ⟨h, rfl, rfl⟩ | ⟨h, rfl, rfl⟩ <;> (obtain ⟨x0, x1, y0, y1, _⟩ := h; omega)
  rcases how_count hs ht hx with k | k | k | k <;> omega
/-- An end on the other one, by values. -/
theorem how_onV {a b c d p q r s : Int} (hs : isS a b c d = true) (ht : isS p q r s = true) (h : onV p q r s a b = true ∨ onV p q r s c d = true ∨ onV a b c d p q = true ∨ onV a b c d r s = true) : howV a b c d p q r s = 1 ∨ howV a b c d p q r s = 3 := by
  rcases h with h | h | h | h
  · exact how_on hs ht (.inl ⟨(onV_iff.1 h).2, rfl, rfl⟩)
  · exact how_on hs ht (.inr (.inl ⟨(onV_iff.1 h).2, rfl, rfl⟩))
  · exact how_on hs ht (.inr (.inr (.inl ⟨(onV_iff.1 h).2, rfl, rfl⟩)))
  · exact how_on hs ht (.inr (.inr (.inr ⟨(onV_iff.1 h).2, rfl, rfl⟩)))
end Go.Proofs.YtkeljibnjpinlaaDoor

/- The model's cursor over the bytes of a draw: what each of its small functions gives, and what it leaves as it was. -/
namespace Go.Proofs.YtkeljibnjpinlaaDoor
open Go.ChangeShapes Go.WideShapes Go.ChangeAt Go.RowKit
set_option linter.unusedVariables false

/-- Bytes that can be read, outside block p. -/
def Src (w : World) (a : Option Addr) (len : Nat) (p : Nat) : Prop :=
  len ≤ 9223372036854775807 ∧ ∀ i, i < len → ∃ b off, a = some ⟨b, off, none⟩ ∧ b < p ∧ ∃ n : Nat, n ≤ 255 ∧ w.cell? ⟨b, off + i, none⟩ = some (.int .u8 (n : Int))
/-- Block p is a cursor. -/
def Cur (w : World) (p : Nat) : Prop :=
  ∃ a len cap, ∃ i : Nat, ∃ h : Int, w.heap[p]? = some (.cells #[.slice a len cap, .int .i64 i, .int .i64 h] 74 (0, 0)) ∧ i ≤ len ∧ Src w a len p
theorem cell_of_heap {w : World} {p : Nat} {cs : Array Value} {T : TypeId} (h : w.heap[p]? = some (.cells cs T (0, 0))) (j : Nat) : w.cell? ⟨p, j, none⟩ = cs[j]? := by
  simp [World.cell?, h]
theorem frozen_of_heap {w : World} {p : Nat} {cs : Array Value} {T : TypeId} (h : w.heap[p]? = some (.cells cs T (0, 0))) (j : Nat) : w.frozen? ⟨p, j, none⟩ = false := by
  simp [World.frozen?, h]
/-- An int between lo and hi was drawn; nothing but the cursor has been written. -/
def DInt (p : Nat) (w : World) (lo hi : Int) (e : Ending) (w' : World) : Prop :=
  (∃ n : Int, lo ≤ n ∧ n ≤ hi ∧ e = .returned (.int .i64 n)) ∧ Cur w' p ∧ w.grownBy w' (some p)
theorem and_bd (x : Int) (m : Nat) (hm : m < 9223372036854775808) : 0 ≤ bits .and .i64 x (m : Int) ∧ bits .and .i64 x (m : Int) ≤ m := by
  unfold bits
  simp only [BitVec.ofInt_natCast, BitVec.toNat_and, BitVec.toNat_ofNat]
  have h : (BitVec.ofInt IntKind.i64.bits x).toNat &&& m % 2 ^ IntKind.i64.bits ≤ m := Nat.le_trans Nat.and_le_right (Nat.mod_le _ _)
  generalize (BitVec.ofInt IntKind.i64.bits x).toNat &&& m % 2 ^ IntKind.i64.bits = n at h
  rw [IntKind.wrap_i64]
  omega
theorem grown_set {w w0 : World} {p : Nat} (hg : w0.grownBy w (some p)) (j : Nat) (v : Value) : w0.grownBy (w.setCell ⟨p, j, none⟩ v) (some p) :=
  ⟨hg.os, hg.tape, hg.output, Nat.le_trans hg.size (by simp [World.setCell]), fun k hk hne => (Below.heap_setCell _ _ _ _ (fun e => hne (by rw [e]))).trans (hg.block k hk hne)⟩
theorem grown_drewN {w w0 : World} {r : Option Nat} (hg : w0.grownBy w r) (n : Nat) : w0.grownBy (w.drewN n) r := ⟨hg.os, hg.tape, hg.output, hg.size, hg.block⟩
theorem grown_refl (w : World) (r : Option Nat) : w.grownBy w r := ⟨rfl, rfl, rfl, Nat.le_refl _, fun _ _ _ => rfl⟩
theorem src_grown {w w' : World} {a : Option Addr} {len p : Nat} (h : Src w a len p) (hg : w.grownBy w' (some p)) : Src w' a len p :=
  ⟨h.1, fun i hi => by
    obtain ⟨b, off, e, hb, n, hn, hc⟩ := h.2 i hi
    exact ⟨b, off, e, hb, n, hn, hg.cell hc (by simp; omega)⟩⟩
theorem cur_set {w : World} {p : Nat} {a : Option Addr} {len cap : Nat} {i : Nat} {h : Int} (hp : w.heap[p]? = some (.cells #[.slice a len cap, .int .i64 i, .int .i64 h] 74 (0, 0))) (x : Int) (q : Nat) :
    ((w.setCell ⟨p, 2, none⟩ (.int .i64 x)).drewN q).heap[p]? = some (.cells #[.slice a len cap, .int .i64 i, .int .i64 x] 74 (0, 0)) := by
  show (w.setCell ⟨p, 2, none⟩ (.int .i64 x)).heap[p]? = _
  rw [heap_setCell_same w p 2 _ _ _ hp]; rfl
theorem cur_set1 {w : World} {p : Nat} {a : Option Addr} {len cap : Nat} {i : Nat} {h : Int} (hp : w.heap[p]? = some (.cells #[.slice a len cap, .int .i64 i, .int .i64 h] 74 (0, 0))) (x : Int) :
    (w.setCell ⟨p, 1, none⟩ (.int .i64 x)).heap[p]? = some (.cells #[.slice a len cap, .int .i64 x, .int .i64 h] 74 (0, 0)) := by
  rw [heap_setCell_same w p 1 _ _ _ hp]; rfl
theorem dint_mk {p : Nat} {w w' : World} {n lo hi : Int} (h0 : lo ≤ n) (h1 : n ≤ hi) {a : Option Addr} {len cap i : Nat} {h : Int}
    (hp : w'.heap[p]? = some (.cells #[.slice a len cap, .int .i64 i, .int .i64 h] 74 (0, 0))) (hil : i ≤ len) (hs : Src w a len p) (hg : w.grownBy w' (some p)) :
    DInt p w lo hi (.returned (.int .i64 n)) w' := ⟨⟨n, h0, h1, rfl⟩, ⟨a, len, cap, i, h, hp, hil, src_grown hs hg⟩, hg⟩
theorem byte_any (p : Nat) (w : World) (hc : Cur w p) :
    Calls Tryd.prog 60 #[.pointer (some ⟨p, 0, none⟩)] w (DInt p w 0 255) := by
  obtain ⟨a, len, cap, i, h, hp, hi, hlen, hsrc⟩ := hc
  have c0 : w.cell? ⟨p, 0, none⟩ = some (.slice a len cap) := by rw [cell_of_heap hp]; rfl
  have c1 : w.cell? ⟨p, 1, none⟩ = some (.int .i64 i) := by rw [cell_of_heap hp]; rfl
  have c2 : w.cell? ⟨p, 2, none⟩ = some (.int .i64 h) := by rw [cell_of_heap hp]; rfl
  have f1 := frozen_of_heap hp 1
  have f2 := frozen_of_heap hp 2
  have HS : Hid (Src w a len p) := Lib.hid ⟨hlen, hsrc⟩
  have HP := Lib.hid hp; clear hp
  by_cases hlt : i < len
  · obtain ⟨b, off, rfl, hb0, n, hn, hcell⟩ := hsrc i hlt
    have hb : b ≠ p := Nat.ne_of_lt hb0
    clear hsrc hb0
    go_enter Tryd.func60, Tryd.ntmps60
    go_wp2
    go_quiet (fail)
    go_wp2
    go_quiet (fail)
    go_wp2
    go_quiet (fail)
    go_wp2
    go_ret
    exact dint_mk (and_bd _ 255 (by decide)).1 (and_bd _ 255 (by decide)).2 (cur_set1 (i := i) (cur_set HP.out _ _) (i + 1 : Nat)) (by omega) HS.out (grown_set (grown_drewN (grown_set (grown_refl w _) _ _) _) _ _)
  · clear hsrc
    go_enter Tryd.func60, Tryd.ntmps60
    go_wp2
    go_quiet (fail)
    go_wp2
    go_quiet (fail)
    go_wp2
    go_ret
    exact dint_mk (and_bd _ 255 (by decide)).1 (and_bd _ 255 (by decide)).2 (w' := ((w.setCell ⟨p, 2, none⟩ (.int .i64 _)).drewN _).drewN _) (show (w.setCell ⟨p, 2, none⟩ (.int .i64 _)).heap[p]? = _ from cur_set HP.out _ 0) hi HS.out (grown_drewN (grown_drewN (grown_set (grown_refl w _) _ _) _) _)
theorem grown_trans {a b c : World} {p : Nat} (h : a.grownBy b (some p)) (k : b.grownBy c (some p)) : a.grownBy c (some p) :=
  ⟨k.os.trans h.os, k.tape.trans h.tape, k.output.trans h.output, Nat.le_trans h.size k.size, fun i hi hne => (k.block i (Nat.lt_of_lt_of_le hi h.size) hne).trans (h.block i hi hne)⟩
theorem grown_alloc {a b : World} {r : Option Nat} (h : a.grownBy b r) (o : Obj) : a.grownBy (b.alloc o) r :=
  ⟨h.os, h.tape, h.output, Nat.le_trans h.size (by simp), fun i hi hne => (Below.heap_alloc _ _ _ (Nat.lt_of_lt_of_le hi h.size)).trans (h.block i hi hne)⟩
theorem cur_lt {w : World} {p : Nat} (h : Cur w p) : p < w.heap.size := by
  obtain ⟨a, len, cap, i, h, hp, _⟩ := h
  exact (Array.getElem?_eq_some_iff.1 hp).1
theorem src_alloc {w : World} {a : Option Addr} {len p : Nat} (h : Src w a len p) (o : Obj) : Src (w.alloc o) a len p := src_grown h (grown_alloc (grown_refl w _) o)
theorem cur_alloc {w : World} {p : Nat} (h : Cur w p) (o : Obj) : Cur (w.alloc o) p := by
  have hlt := cur_lt h
  obtain ⟨a, len, cap, i, h, hp, hi, hs⟩ := h
  exact ⟨a, len, cap, i, h, (Below.heap_alloc _ _ _ hlt).trans hp, hi, src_alloc hs o⟩
theorem cur_below {w w' : World} {p B : Nat} (h : Cur w p) (hb : Below B w w') (hp : p < B) : Cur w' p := by
  obtain ⟨a, len, cap, i, h, hp', hi, hlen, hs⟩ := h
  refine ⟨a, len, cap, i, h, (hb.block p hp).trans hp', hi, hlen, fun j hj => ?_⟩
  obtain ⟨b, off, e, hlt, n, hn, hc⟩ := hs j hj
  exact ⟨b, off, e, hlt, n, hn, (hb.cell (p := ⟨b, off + j, none⟩) (Nat.lt_trans hlt hp)).trans hc⟩
/-- A bool was drawn. -/
def DBool (p : Nat) (w : World) (e : Ending) (w' : World) : Prop :=
  (∃ b : Bool, e = .returned (.bool b)) ∧ Cur w' p ∧ w.grownBy w' (some p)
/-- A text of at most m bytes was drawn. -/
def DStr (p : Nat) (w : World) (m : Nat) (e : Ending) (w' : World) : Prop :=
  (∃ s : ByteArray, s.size ≤ m ∧ e = .returned (.string s)) ∧ Cur w' p ∧ w.grownBy w' (some p)

theorem below_any (p : Nat) (n : Int) (w : World) (h1 : 1 ≤ n) (h2 : n ≤ 9223372036854775807) (hc : Cur w p) :
    Calls Tryd.prog 36 #[.pointer (some ⟨p, 0, none⟩), .int .i64 n] w (DInt p w 0 (n - 1)) := by
  by_cases hs : n ≤ 256
  · go_enter Tryd.func36, Tryd.ntmps36
    go_wp2_with fail
    refine (byte_any p _ hc).mono ?_
    rintro e w1 ⟨⟨x, hx0, hx1, rfl⟩, hc1, hg1⟩
    have b0 : 0 ≤ x % n := Int.emod_nonneg _ (by omega)
    have b1 : x % n < n := Int.emod_lt_of_pos _ (by omega)
    go_wp2
    go_ret
    exact ⟨⟨_, b0, by omega, rfl⟩, hc1, hg1⟩
  · go_enter Tryd.func36, Tryd.ntmps36
    go_wp2_with fail
    refine (byte_any p _ hc).mono ?_
    rintro e w1 ⟨⟨x, hx0, hx1, rfl⟩, hc1, hg1⟩
    go_wp2_with fail
    refine (byte_any p _ hc1).mono ?_
    rintro e w2 ⟨⟨y, hy0, hy1, rfl⟩, hc2, hg2⟩
    go_wp2_with fail
    refine (byte_any p _ hc2).mono ?_
    rintro e w3 ⟨⟨z, hz0, hz1, rfl⟩, hc3, hg3⟩
    have b0 : 0 ≤ (x * 65536 + y * 256 + z) % n := Int.emod_nonneg _ (by omega)
    have b1 : (x * 65536 + y * 256 + z) % n < n := Int.emod_lt_of_pos _ (by omega)
    go_wp2
    go_ret
    exact ⟨⟨_, b0, by omega, rfl⟩, hc3, grown_trans hg1 (grown_trans hg2 hg3)⟩
theorem int_any (p b len cap : Nat) (zs : List Int) (lo hi : Int) (w : World) (hlen : zs.length = len) (h1 : 1 ≤ len) (h2 : len ≤ 9223372036854775807) (hb : b ≠ p)
    (hcs : ∀ j (h : j < zs.length), w.cell? ⟨b, j, none⟩ = some (.int .i64 zs[j])) (hz : ∀ z ∈ zs, lo ≤ z ∧ z ≤ hi) (hc : Cur w p) :
    Calls Tryd.prog 80 #[.pointer (some ⟨p, 0, none⟩), .slice (some ⟨b, 0, none⟩) len cap] w (DInt p w lo hi) := by
  have HC := Lib.hid hcs; clear hcs
  have HL := Lib.hid hlen; clear hlen
  have HZ := Lib.hid hz; clear hz
  go_enter Tryd.func80, Tryd.ntmps80
  go_wp2_with fail
  refine (below_any p len _ (by omega) (by omega) hc).mono ?_
  rintro e w1 ⟨⟨x, hx0, hx1, rfl⟩, hc1, hg1⟩
  obtain ⟨j, rfl⟩ : ∃ j : Nat, x = j := ⟨x.toNat, by omega⟩
  have hj : j < zs.length := by rw [HL.out]; omega
  have hcell : w1.cell? ⟨b, j, none⟩ = some (.int .i64 zs[j]) := hg1.cell (HC.out j hj) (by simpa using hb)
  obtain ⟨z, hz⟩ : ∃ z, zs[j] = z := ⟨_, rfl⟩
  rw [hz] at hcell
  have hm := HZ.out z (by rw [← hz]; exact List.getElem_mem _)
  clear hz
  have hj' : j < len := by omega
  clear hj
  go_wp2
  go_ret
  exact ⟨⟨z, hm.1, hm.2, rfl⟩, hc1, hg1⟩
end Go.Proofs.YtkeljibnjpinlaaDoor

/- The model's draws of integers and numerals: what they give is bounded; nothing that existed before the draw is written. -/
namespace Go.Proofs.YtkeljibnjpinlaaDoor
open Go.ChangeShapes Go.WideShapes Go.ChangeAt Go.RowKit
set_option linter.unusedVariables false

/-- The bytes of the draw, as they came in: below the blocks of the call. -/
def Code (w : World) (B : Nat) (a : Option Addr) (len : Nat) : Prop :=
  len ≤ 9223372036854775807 ∧ B ≤ w.heap.size ∧ ∀ i, i < len → ∃ b off, a = some ⟨b, off, none⟩ ∧ b < B ∧ ∃ n : Nat, n ≤ 255 ∧ w.cell? ⟨b, off + i, none⟩ = some (.int .u8 (n : Int))
theorem code_of_row {w : World} {a : Option Addr} {len cap : Nat} {zs : List Int} (h : IsRow .u8 w a len cap zs) : Code w w.heap.size a len := by
  rcases h with ⟨rfl, rfl, rfl, rfl⟩ | ⟨⟨b, off, spot⟩, rfl, hl, hm, hz, hcell, hwz⟩
  · exact ⟨by omega, Nat.le_refl _, fun i hi => absurd hi (by omega)⟩
  · unfold maxLen at hm
    refine ⟨by omega, Nat.le_refl _, fun i hi => ?_⟩
    have hc := hcell i (by omega)
    have hspot : spot = none := by
      have h0 := hcell 0 (by omega)
      simpa [Addr.add] using World.cell?_spot h0
    subst hspot
    have ea : (⟨b, off, none⟩ : Addr).add i = ⟨b, off + i, none⟩ := by
      rcases i with _ | i
      · simp [Addr.add]
      · simp [Addr.add]
    have hc' : w.cell? ⟨b, off + i, none⟩ = some (.int .u8 (zs.getD i 0)) := by rw [← ea]; exact hc
    have hmem : zs.getD i 0 ∈ zs := by
      rw [List.getD_eq_getElem?_getD, List.getElem?_eq_getElem (by omega)]; exact List.getElem_mem _
    have hw := hwz _ hmem
    have e1 : IntKind.u8.min = 0 := rfl
    have e2 : IntKind.u8.max = 255 := rfl
    simp [Lit.wf, e1, e2] at hw
    obtain ⟨n, hn⟩ : ∃ n : Nat, zs.getD i 0 = n := ⟨(zs.getD i 0).toNat, by have := hw.1; rw [List.getD_eq_getElem?_getD] at *; omega⟩
    refine ⟨b, off, rfl, World.block_lt_of_cell? w _ hc', n, ?_, by rw [hc', hn]⟩
    rw [List.getD_eq_getElem?_getD] at hn
    omega
theorem code_below {w w' : World} {B : Nat} {a : Option Addr} {len : Nat} (h : Code w B a len) (hb : Below B w w') : Code w' B a len :=
  ⟨h.1, Nat.le_trans h.2.1 hb.size, fun i hi => by
    obtain ⟨b, off, e, hl, n, hn, hc⟩ := h.2.2 i hi
    exact ⟨b, off, e, hl, n, hn, (hb.cell hl).trans hc⟩⟩
theorem src_new {w : World} {B len : Nat} {a : Option Addr} (hlen : len ≤ 9223372036854775807) (hB : B ≤ w.heap.size)
    (h : ∀ i, i < len → ∃ b off, a = some ⟨b, off, none⟩ ∧ b < B ∧ ∃ n : Nat, n ≤ 255 ∧ w.cell? ⟨b, off + i, none⟩ = some (.int .u8 (n : Int))) (o : Obj) : Src (w.alloc o) a len w.heap.size :=
  ⟨hlen, fun i hi => by
    obtain ⟨b, off, e, hb, n, hn, hc⟩ := h i hi
    refine ⟨b, off, e, by omega, n, hn, ?_⟩
    exact (grown_alloc (grown_refl w none) o).cell hc (by simp)⟩
/-- A cursor was made. -/
def Made (w : World) (e : Ending) (w' : World) : Prop := ∃ p, w.heap.size ≤ p ∧ e = .returned (.pointer (some ⟨p, 0, none⟩)) ∧ Cur w' p ∧ Below w.heap.size w w'
set_option maxRecDepth 100000 in
theorem new_any (a : Option Addr) (len cap B : Nat) (w : World) (hc : Code w B a len) :
    Calls Tryd.prog 31 #[.slice a len cap] w (Made w) := by
  obtain ⟨hlen, hB, hcs⟩ := hc
  have HC := Lib.hid hcs; clear hcs
  go_enter Tryd.func31, Tryd.ntmps31
  go_wp2
  go_loopw [3, 4] (fun v i wr => ∃ k : Nat, ∃ h : Int, k ≤ len ∧ i = .int .i64 k ∧ v = .int .i64 h ∧ wr = w) (fun _ i _ => len - (intOf i).toNat)
  case atStart => exact ⟨0, _, Nat.zero_le _, rfl, rfl, rfl⟩
  case round =>
    obtain ⟨k, h, hk, rfl, rfl, rfl⟩ := hrel
    by_cases hlt : k < len
    · obtain ⟨b, off, rfl, hb, n, hn, hcell⟩ := HC.out k hlt
      by_cases h4 : k < 4000
      · go_wp2
        go_roundw
        case rel => exact ⟨k + 1, _, by omega, by go_num, rfl, trivial⟩
        case measure => simp [intOf]; omega
      · go_wp2
        go_ret
        exact ⟨wr.heap.size, Nat.le_refl _, rfl, ⟨_, len, cap, 0, h, heap_alloc_new wr _, Nat.zero_le _, src_new (hlen := hlen) hB HC.out _⟩, (Below.refl _ _).alloc (Nat.le_refl _) _⟩
    · go_wp2
      go_ret
      exact ⟨wr.heap.size, Nat.le_refl _, rfl, ⟨_, len, cap, 0, h, heap_alloc_new wr _, Nat.zero_le _, src_new (hlen := hlen) hB HC.out _⟩, (Below.refl _ _).alloc (Nat.le_refl _) _⟩

theorem made_block (w : World) (cs : Array Value) (T : TypeId) (j : Nat) : (w.alloc (.cells cs T)).cell? ⟨w.heap.size, j, none⟩ = cs[j]? := by
  rw [cell_of_heap (heap_alloc_new w (.cells cs T))]
/-- l1Int over a literal list. -/
theorem ints_made (p len cap b : Nat) (zs : List Int) (lo hi : Int) (w : World) (T : TypeId) (cs : Array Value) (hlen : zs.length = len) (h1 : 1 ≤ len) (h2 : len ≤ 9223372036854775807)
    (hbb : b = w.heap.size) (hcs : cs = (zs.map (Value.int .i64)).toArray) (hz : ∀ z ∈ zs, lo ≤ z ∧ z ≤ hi) (hc : Cur w p) :
    Calls Tryd.prog 80 #[.pointer (some ⟨p, 0, none⟩), .slice (some ⟨b, 0, none⟩) len cap] (w.alloc (.cells cs T)) (DInt p w lo hi) := by
  subst hbb
  refine (int_any p w.heap.size len cap zs lo hi _ hlen h1 h2 (by have := cur_lt hc; omega) (fun j hj => ?_) hz (cur_alloc hc _)).mono fun e w' h => ⟨h.1, h.2.1, grown_trans (grown_alloc (grown_refl w _) _) h.2.2⟩
  rw [made_block, hcs]; simp [hj]
/-- An int64 was drawn. -/
abbrev DAny (p : Nat) (w : World) := DInt p w (-9223372036854775808) 9223372036854775807
/-- What the cursor's block is not: nothing below the call's own blocks is written. -/
theorem below_grown {B : Nat} {a w w' : World} {p : Nat} (h : Below B a w) (hg : w.grownBy w' (some p)) (hB : B ≤ w.heap.size) (hp : B ≤ p) : Below B a w' :=
  h.grown hg hB (fun k e => by cases e; exact hp)
/-- An int64 was drawn by a whole draw. -/
def GotInt (w : World) (e : Ending) (w' : World) : Prop :=
  (∃ n : Int, -9223372036854775808 ≤ n ∧ n ≤ 9223372036854775807 ∧ e = .returned (.int .i64 n)) ∧ Below w.heap.size w w'
def GotInt2 (w : World) (e : Ending) (w' : World) : Prop :=
  (∃ n m : Int, -9223372036854775808 ≤ n ∧ n ≤ 9223372036854775807 ∧ -9223372036854775808 ≤ m ∧ m ≤ 9223372036854775807 ∧ e = .returned (.tuple #[.int .i64 n, .int .i64 m])) ∧ Below w.heap.size w w'
def GotStr (w : World) (m : Nat) (e : Ending) (w' : World) : Prop :=
  (∃ s : ByteArray, s.size ≤ m ∧ e = .returned (.string s)) ∧ Below w.heap.size w w'
theorem big_no (a : Option Addr) (len cap : Nat) (w : World) (h : len ≤ 1048576) :
    Calls Tryd.prog 8 #[.slice a len cap] w fun e w' => e = .returned (.bool false) ∧ w = w' := by
  go_enter Tryd.func8, Tryd.ntmps8
  go_wp2
  go_ret
  exact ⟨by simp; omega, rfl⟩
theorem big_yes (a : Option Addr) (len cap : Nat) (w : World) (h : 1048576 < len) :
    Calls Tryd.prog 8 #[.slice a len cap] w fun e w' => e = .returned (.bool true) ∧ w = w' := by
  go_enter Tryd.func8, Tryd.ntmps8
  go_wp2
  go_ret
  exact ⟨by simp; omega, rfl⟩
end Go.Proofs.YtkeljibnjpinlaaDoor

/- The model's draws of points: what they give is two 64-bit integers; nothing that existed before the draw is written. -/
namespace Go.Proofs.YtkeljibnjpinlaaDoor
open Go.ChangeShapes Go.WideShapes Go.ChangeAt Go.RowKit
set_option linter.unusedVariables false

/-- A cursor p, and points of the call's own: the j-th in the j-th block behind w0's. -/
def Pen (p : Nat) (w0 w : World) (l : List (Int × Int)) : Prop :=
  p < w0.heap.size ∧ Cur w p ∧ w0.grownBy w (some p) ∧ w0.heap.size + l.length ≤ w.heap.size ∧
  ∀ (j : Nat) x y, l[j]? = some (x, y) → ∃ T, w.heap[w0.heap.size + j]? = some (.cells #[.int .i64 x, .int .i64 y] T (0, 0))
theorem cur_set_other {w : World} {p b j : Nat} {v : Value} (h : Cur w p) (hb : p < b) : Cur (w.setCell ⟨b, j, none⟩ v) p := by
  have hg := grown_set (grown_refl w (some b)) j v
  obtain ⟨a, len, cap, i, h, hp, hi, hlen, hs⟩ := h
  have hlt := (Array.getElem?_eq_some_iff.1 hp).1
  refine ⟨a, len, cap, i, h, (hg.block p hlt (by simp; omega)).trans hp, hi, hlen, fun k hk => ?_⟩
  obtain ⟨c, off, e, hc, n, hn, hcell⟩ := hs k hk
  exact ⟨c, off, e, hc, n, hn, hg.cell hcell (by simp; omega)⟩
theorem grown_setNew {w0 w : World} {r : Option Nat} {b : Nat} (h : w0.grownBy w r) (hb : w0.heap.size ≤ b) (j : Nat) (v : Value) : w0.grownBy (w.setCell ⟨b, j, none⟩ v) r :=
  ⟨h.os, h.tape, h.output, Nat.le_trans h.size (by simp [World.setCell]), fun k hk hne => (Below.heap_setCell _ _ _ _ (fun e => by simp at e; omega)).trans (h.block k hk hne)⟩
section
variable {p : Nat} {w0 w w' : World} {l : List (Int × Int)} {a b c d x y u : Int}
theorem Pen.start (h : Cur w p) : Pen p w w [] := ⟨cur_lt h, h, grown_refl _ _, by simp, fun j x y h => by simp at h⟩
theorem Pen.next (h : Pen p w0 w l) (hc : Cur w' p) (hg : w.grownBy w' (some p)) : Pen p w0 w' l := by
  refine ⟨h.1, hc, grown_trans h.2.2.1 hg, Nat.le_trans h.2.2.2.1 hg.size, fun j x y hj => ?_⟩
  have hl : j < l.length := (List.getElem?_eq_some_iff.1 hj).1
  have h2 := h.2.2.2.1
  have h1 := h.1
  obtain ⟨T, h3⟩ := h.2.2.2.2 j x y hj
  exact ⟨T, (hg.block _ (by omega) (by simp; omega)).trans h3⟩
theorem Pen.al (h : Pen p w0 w l) (o : Obj) : Pen p w0 (w.alloc o) l := h.next (cur_alloc h.2.1 o) (grown_alloc (grown_refl _ _) o)
theorem Pen.drew (h : Pen p w0 w l) : Pen p w0 w.drew l := h.next (by obtain ⟨a, len, cap, i, h, hp, hi, hs⟩ := h.2.1; exact ⟨a, len, cap, i, h, hp, hi, hs⟩) ⟨rfl, rfl, rfl, Nat.le_refl _, fun _ _ _ => rfl⟩
theorem Pen.more (h : Pen p w0 w l) (hz : w0.heap.size + l.length = w.heap.size) (T : TypeId) (x y : Int) : Pen p w0 (w.alloc (.cells #[.int .i64 x, .int .i64 y] T)) (l ++ [(x, y)]) := by
  have hn := h.al (.cells #[.int .i64 x, .int .i64 y] T)
  refine ⟨hn.1, hn.2.1, hn.2.2.1, by simp; omega, fun j u v hj => ?_⟩
  by_cases hl : j < l.length
  · rw [List.getElem?_append_left hl] at hj
    exact hn.2.2.2.2 j u v hj
  · have hj' : j = l.length := by
      have := (List.getElem?_eq_some_iff.1 hj).1
      simp at this; omega
    subst hj'
    simp at hj
    obtain ⟨rfl, rfl⟩ := hj
    rw [hz]
    exact ⟨T, heap_alloc_new w _⟩
theorem Pen.of1 (h : Cur w0 p) (T : TypeId) : Pen p w0 (w0.alloc (.cells #[.int .i64 a, .int .i64 b] T)) [(a, b)] := (Pen.start h).more (by simp) T a b
theorem Pen.of2 (h : Cur w0 p) (T : TypeId) : Pen p w0 ((w0.alloc (.cells #[.int .i64 a, .int .i64 b] T)).alloc (.cells #[.int .i64 c, .int .i64 d] T)) [(a, b), (c, d)] := (Pen.of1 h T).more (by simp) T c d
theorem Pen.of3 (h : Cur w0 p) (T : TypeId) : Pen p w0 (((w0.alloc (.cells #[.int .i64 a, .int .i64 b] T)).alloc (.cells #[.int .i64 c, .int .i64 d] T)).alloc (.cells #[.int .i64 x, .int .i64 y] T)) [(a, b), (c, d), (x, y)] := (Pen.of2 h T).more (by simp) T x y
theorem Pen.cell (h : Pen p w0 w l) {j : Nat} (hj : l[j]? = some (x, y)) : w.cell? ⟨w0.heap.size + j, 0, none⟩ = some (.int .i64 x) ∧ w.cell? ⟨w0.heap.size + j, 1, none⟩ = some (.int .i64 y) := by
  obtain ⟨T, h3⟩ := h.2.2.2.2 j x y hj
  constructor
  · rw [World.cell?, h3]; rfl
  · rw [World.cell?, h3]; rfl
theorem Pen.frozen (h : Pen p w0 w l) {j : Nat} (hj : l[j]? = some (x, y)) : w.frozen? ⟨w0.heap.size + j, 0, none⟩ = false ∧ w.frozen? ⟨w0.heap.size + j, 1, none⟩ = false := by
  obtain ⟨T, h3⟩ := h.2.2.2.2 j x y hj
  constructor
  · rw [World.frozen?, h3]; rfl
  · rw [World.frozen?, h3]; rfl
/-- Another block is written. -/
theorem Pen.other (h : Pen p w0 w l) {b : Nat} (hb : w0.heap.size + l.length ≤ b) (i : Nat) (v : Value) : Pen p w0 (w.setCell ⟨b, i, none⟩ v) l := by
  have h1 := h.1
  refine ⟨h.1, cur_set_other h.2.1 (by omega), grown_setNew h.2.2.1 (by omega) i v, Nat.le_trans h.2.2.2.1 (by simp [World.setCell]), fun j x y hj => ?_⟩
  have hl : j < l.length := (List.getElem?_eq_some_iff.1 hj).1
  obtain ⟨T, h3⟩ := h.2.2.2.2 j x y hj
  exact ⟨T, (Below.heap_setCell _ _ _ _ (fun e => by simp at e; omega)).trans h3⟩
/-- What a draw leaves behind a store into the call's own block. -/
theorem Pen.put (h : Cur w p ∧ w0.grownBy w (some p)) {b : Nat} (hp : p < b) (hb : w0.heap.size ≤ b) (i : Nat) (v : Value) : Cur (w.setCell ⟨b, i, none⟩ v) p ∧ w0.grownBy (w.setCell ⟨b, i, none⟩ v) (some p) :=
  ⟨cur_set_other h.1 hp, grown_setNew h.2 hb i v⟩
theorem Pen.put2 (h : Cur w p ∧ w0.grownBy w (some p)) {b : Nat} (hp : p < b) (hb : w0.heap.size ≤ b) (u v : Value) : Cur ((w.setCell ⟨b, 0, none⟩ u).setCell ⟨b, 1, none⟩ v) p ∧ w0.grownBy ((w.setCell ⟨b, 0, none⟩ u).setCell ⟨b, 1, none⟩ v) (some p) :=
  Pen.put (Pen.put h hp hb 0 u) hp hb 1 v
theorem Pen.out (h : Pen p w0 w l) : Cur w p ∧ w0.grownBy w (some p) := ⟨h.2.1, h.2.2.1⟩
end
/-- Boxes behind a call that writes a later cursor alone. -/
theorem Boxes.nextG {p : Nat} {w0 w w' : World} {l : List (Int × Int)} (h : Boxes w0 w l) (hg : w.grownBy w' (some p)) (hp : w0.heap.size + l.length ≤ p) : Boxes w0 w' l := by
  refine ⟨below_grown h.1 hg h.1.size (by omega), Nat.le_trans h.2.1 hg.size, fun j x y hj => ?_⟩
  have hl : j < l.length := (List.getElem?_eq_some_iff.1 hj).1
  have h2 := h.2.1
  obtain ⟨T, h3⟩ := h.2.2 j x y hj
  exact ⟨T, (hg.block _ (by omega) (by simp; omega)).trans h3⟩
/-- A point was drawn. -/
def DPt (p : Nat) (w : World) (lo hi : Int) (e : Ending) (w' : World) : Prop :=
  (∃ x y : Int, lo ≤ x ∧ x ≤ hi ∧ lo ≤ y ∧ y ≤ hi ∧ e = .returned (PtV x y)) ∧ Cur w' p ∧ w.grownBy w' (some p)
theorem l4Draw_any (p : Nat) (w : World) (hc : Cur w p) :
    Calls Tryd.prog 62 #[.pointer (some ⟨p, 0, none⟩)] w (DPt p w 0 11) := by
  have HP := Lib.hid (Pen.of1 (a := 0) (b := 0) hc 33)
  have hp := cur_lt hc
  go_enter Tryd.func62, Tryd.ntmps62
  clear hc
  go_wp2_with fail
  refine (below_any p 12 _ (by decide) (by decide) HP.out.2.1).mono ?_
  rintro e w1 ⟨⟨x, hx0, hx1, rfl⟩, hc1, hg1⟩
  have HP1 := Lib.hid (HP.out.next hc1 hg1)
  clear hc1 hg1 HP
  go_wp2_with fail
  refine (below_any p 12 _ (by decide) (by decide) HP1.out.2.1).mono ?_
  rintro e w2 ⟨⟨y, hy0, hy1, rfl⟩, hc2, hg2⟩
  have HP2 := Lib.hid (HP1.out.next hc2 hg2)
  clear hc2 hg2 HP1
  obtain ⟨k0, k1⟩ := HP2.out.cell (j := 0) rfl
  obtain ⟨f0, f1⟩ := HP2.out.frozen (j := 0) rfl
  simp only [Nat.add_zero] at k0 k1 f0 f1
  go_wp2
  refine bodyPost_ret (v := PtV x y) (by simp [results, Tryd.results62, go_sem, k0, k1]) rfl ?_
  have h := Pen.put (Pen.put HP2.out.out hp (Nat.le_refl _) 0 (.int .i64 x)) hp (Nat.le_refl _) 1 (.int .i64 y)
  exact ⟨⟨x, y, hx0, hx1, hy0, hy1, rfl⟩, h.1, h.2⟩
theorem l4Raw_any (p : Nat) (w : World) (hc : Cur w p) :
    Calls Tryd.prog 63 #[.pointer (some ⟨p, 0, none⟩)] w (DAny p w) := by
  go_enter Tryd.func63, Tryd.ntmps63
  go_wp2_with fail
  refine (ints_made p 8 8 _ [-1, 0, 200, 201, 1000, 1001, 9223372036854775807, -9223372036854775808] (-9223372036854775808) 9223372036854775807 w _ _ rfl (by decide) (by decide) rfl rfl (by decide) hc).mono ?_
  rintro e w2 ⟨⟨y, hy0, hy1, rfl⟩, hc2, hg2⟩
  go_wp2
  go_ret
  exact ⟨⟨_, hy0, hy1, rfl⟩, hc2, hg2⟩
/-- Any 64-bit point was drawn. -/
abbrev DPtAny (p : Nat) (w : World) := DPt p w (-9223372036854775808) 9223372036854775807
theorem l4Any_any (p : Nat) (w : World) (hc : Cur w p) :
    Calls Tryd.prog 39 #[.pointer (some ⟨p, 0, none⟩)] w (DPtAny p w) := by
  have HP := Lib.hid (Pen.of1 (a := 0) (b := 0) hc 33)
  have hp := cur_lt hc
  go_enter Tryd.func39, Tryd.ntmps39
  clear hc
  go_wp2_with fail
  refine (l4Draw_any p _ HP.out.2.1).mono ?_
  rintro e w1 ⟨⟨x, y, hx0, hx1, hy0, hy1, rfl⟩, hc1, hg1⟩
  have HP1 := Lib.hid ((HP.out.next hc1 hg1).al (.cells #[.int .i64 x, .int .i64 y] 33))
  have HQ1 := Lib.hid (Pen.of1 (a := x) (b := y) hc1 33)
  have hlt : w.heap.size + 1 ≤ w1.heap.size := (HP.out.next hc1 hg1).2.2.2.1
  clear hc1 hg1 HP
  go_wp2_with fail
  refine (below_any p 12 _ (by decide) (by decide) HP1.out.2.1).mono ?_
  rintro e w2 ⟨⟨n, hn0, hn1, rfl⟩, hc2, hg2⟩
  have HP2 := Lib.hid (HP1.out.next hc2 hg2)
  have HQ2 := Lib.hid (HQ1.out.next hc2 hg2)
  clear hc2 hg2 HP1 HQ1
  have hne : ¬ w.heap.size = w1.heap.size := by omega
  rcases (by omega : n = 0 ∨ n = 1 ∨ 2 ≤ n) with rfl | rfl | hn
  · go_wp2_with fail
    refine (l4Raw_any p _ HP2.out.2.1).mono ?_
    rintro e w3 ⟨⟨u, hu0, hu1, rfl⟩, hc3, hg3⟩
    have HP3 := Lib.hid (HP2.out.next hc3 hg3)
    have HQ3 := Lib.hid (HQ2.out.next hc3 hg3)
    clear hc3 hg3 HP2 HQ2
    obtain ⟨k0, k1⟩ := HP3.out.cell (j := 0) rfl
    obtain ⟨f0, f1⟩ := HP3.out.frozen (j := 0) rfl
    obtain ⟨k2, k3⟩ := HQ3.out.cell (j := 0) rfl
    obtain ⟨f2, f3⟩ := HQ3.out.frozen (j := 0) rfl
    simp only [Nat.add_zero] at k0 k1 f0 f1 k2 k3 f2 f3
    go_wp2
    refine bodyPost_ret (v := PtV u y) (by simp [results, Tryd.results39, go_sem, k0, k1]) rfl ?_
    have h := Pen.put (Pen.put (HP3.out.other (b := w1.heap.size) (by simpa using hlt) 0 (.int .i64 u)).out hp (Nat.le_refl _) 0 (.int .i64 u)) hp (Nat.le_refl _) 1 (.int .i64 y)
    exact ⟨⟨u, y, hu0, hu1, by omega, by omega, rfl⟩, h.1, h.2⟩
  · go_wp2_with fail
    refine (l4Raw_any p _ HP2.out.2.1).mono ?_
    rintro e w3 ⟨⟨u, hu0, hu1, rfl⟩, hc3, hg3⟩
    have HP3 := Lib.hid (HP2.out.next hc3 hg3)
    have HQ3 := Lib.hid (HQ2.out.next hc3 hg3)
    clear hc3 hg3 HP2 HQ2
    obtain ⟨k0, k1⟩ := HP3.out.cell (j := 0) rfl
    obtain ⟨f0, f1⟩ := HP3.out.frozen (j := 0) rfl
    obtain ⟨k2, k3⟩ := HQ3.out.cell (j := 0) rfl
    obtain ⟨f2, f3⟩ := HQ3.out.frozen (j := 0) rfl
    simp only [Nat.add_zero] at k0 k1 f0 f1 k2 k3 f2 f3
    go_wp2
    refine bodyPost_ret (v := PtV x u) (by simp [results, Tryd.results39, go_sem, k0, k1]) rfl ?_
    have h := Pen.put (Pen.put (HP3.out.other (b := w1.heap.size) (by simpa using hlt) 1 (.int .i64 u)).out hp (Nat.le_refl _) 0 (.int .i64 x)) hp (Nat.le_refl _) 1 (.int .i64 u)
    exact ⟨⟨x, u, by omega, by omega, hu0, hu1, rfl⟩, h.1, h.2⟩
  · obtain ⟨k0, k1⟩ := HP2.out.cell (j := 0) rfl
    obtain ⟨f0, f1⟩ := HP2.out.frozen (j := 0) rfl
    obtain ⟨k2, k3⟩ := HQ2.out.cell (j := 0) rfl
    simp only [Nat.add_zero] at k0 k1 f0 f1 k2 k3
    go_wp2
    refine bodyPost_ret (v := PtV x y) (by simp [results, Tryd.results39, go_sem, k0, k1]) rfl ?_
    have h := Pen.put (Pen.put HP2.out.out hp (Nat.le_refl _) 0 (.int .i64 x)) hp (Nat.le_refl _) 1 (.int .i64 y)
    exact ⟨⟨x, y, by omega, by omega, by omega, by omega, rfl⟩, h.1, h.2⟩
/-- Two, three points were drawn. -/
def Is64 (x : Int) : Prop := -9223372036854775808 ≤ x ∧ x ≤ 9223372036854775807
def DPt3 (p : Nat) (w : World) (e : Ending) (w' : World) : Prop :=
  (∃ a b c d x y : Int, (Is64 a ∧ Is64 b ∧ Is64 c ∧ Is64 d ∧ Is64 x ∧ Is64 y) ∧ e = .returned (.tuple #[PtV a b, PtV c d, PtV x y])) ∧ Cur w' p ∧ w.grownBy w' (some p)
/-- Whole draws. -/
def GotPt3 (w : World) (e : Ending) (w' : World) : Prop :=
  (∃ a b c d x y : Int, (Is64 a ∧ Is64 b ∧ Is64 c ∧ Is64 d ∧ Is64 x ∧ Is64 y) ∧ e = .returned (.tuple #[PtV a b, PtV c d, PtV x y])) ∧ Below w.heap.size w w'
def GotPt2 (w : World) (e : Ending) (w' : World) : Prop :=
  (∃ a b c d : Int, (Is64 a ∧ Is64 b ∧ Is64 c ∧ Is64 d) ∧ e = .returned (.tuple #[PtV a b, PtV c d])) ∧ Below w.heap.size w w'
def GotPtII (w : World) (e : Ending) (w' : World) : Prop :=
  (∃ a b p q : Int, (Is64 a ∧ Is64 b ∧ (-2000 ≤ p ∧ p ≤ 2000) ∧ (-2000 ≤ q ∧ q ≤ 2000)) ∧ e = .returned (.tuple #[PtV a b, .int .i64 p, .int .i64 q])) ∧ Below w.heap.size w w'
end Go.Proofs.YtkeljibnjpinlaaDoor

/- Variables of the call's own: a cell of any of them is written. -/
namespace Go.Proofs.YtkeljibnjpinlaaDoor
open Go.RowKit
set_option linter.unusedVariables false
theorem Vars.setAt {w0 w : World} {l : List (Array Value)} {cs : Array Value} (h : Vars w0 w l) (b j i : Nat) (hb : b = w0.heap.size + j) (hj : l[j]? = some cs) (v : Value) :
    Vars w0 (w.setCell ⟨b, i, none⟩ v) (l.set j (cs.setIfInBounds i v)) := by
  subst hb
  have hjl : j < l.length := (List.getElem?_eq_some_iff.1 hj).1
  refine ⟨h.1.setCell (by simp) v, Nat.le_trans (by simpa using h.2.1) (by simp [World.setCell]), fun k c hk => ?_⟩
  by_cases e : j = k
  · subst e
    rw [List.getElem?_set_self hjl] at hk
    simp only [Option.some.injEq] at hk
    subst hk
    obtain ⟨T, h3⟩ := h.2.2 j cs hj
    exact ⟨T, heap_setCell_same w _ i cs T v h3⟩
  · rw [List.getElem?_set_ne e] at hk
    obtain ⟨T, h3⟩ := h.2.2 k c hk
    exact ⟨T, (Below.heap_setCell _ _ _ _ (by simp; omega)).trans h3⟩
/-- Two cells in a row of one of them. -/
theorem Vars.set2At {w0 w : World} {l : List (Array Value)} {cs : Array Value} (h : Vars w0 w l) (b j i : Nat) (hb : b = w0.heap.size + j) (hj : l[j]? = some cs) (u v : Value) :
    Vars w0 ((w.setCell ⟨b, i, none⟩ u).setCell ⟨b, i + 1, none⟩ v) (l.set j ((cs.setIfInBounds i u).setIfInBounds (i + 1) v)) := by
  have h1 := h.setAt b j i hb hj u
  have h2 := h1.setAt b j (i + 1) hb (List.getElem?_set_self (List.getElem?_eq_some_iff.1 hj).1) v
  rwa [List.set_set] at h2
end Go.Proofs.YtkeljibnjpinlaaDoor

/- Variables of the call's own beside a cursor: each with its block, wherever it was made. -/
namespace Go.Proofs.YtkeljibnjpinlaaDoor
open Go.ChangeShapes Go.WideShapes Go.ChangeAt Go.RowKit
set_option linter.unusedVariables false

/-- A cursor p, and variables of the call's own: the j-th in the block (L[j]).1 with the cells (L[j]).2. -/
def Pad (p : Nat) (w0 w : World) (L : List (Nat × Array Value)) : Prop :=
  p < w0.heap.size ∧ Cur w p ∧ w0.grownBy w (some p) ∧ (∀ (j : Nat) b cs, L[j]? = some (b, cs) → w0.heap.size ≤ b ∧ b ≠ p ∧ ∃ T, w.heap[b]? = some (.cells cs T (0, 0))) ∧
  ∀ (j k : Nat) b cs ds, L[j]? = some (b, cs) → L[k]? = some (b, ds) → j = k
section
variable {p : Nat} {w0 w w' : World} {L : List (Nat × Array Value)} {cs ds : Array Value} {b c i j k : Nat} {u v v0 v1 v2 v3 : Value}
theorem Pad.lt (h : Pad p w0 w L) (hj : L[j]? = some (b, cs)) : b < w.heap.size := by
  obtain ⟨_, _, T, h3⟩ := h.2.2.2.1 j b cs hj
  exact (Array.getElem?_eq_some_iff.1 h3).1
theorem Pad.start (h : Cur w p) : Pad p w w [] := ⟨cur_lt h, h, grown_refl _ _, fun j b cs h => by simp at h, fun j k b cs ds h => by simp at h⟩
theorem Pad.next (h : Pad p w0 w L) (hc : Cur w' p) (hg : w.grownBy w' (some p)) : Pad p w0 w' L := by
  refine ⟨h.1, hc, grown_trans h.2.2.1 hg, fun j b cs hj => ?_, h.2.2.2.2⟩
  have hl := h.lt hj
  obtain ⟨h1, hp, T, h3⟩ := h.2.2.2.1 j b cs hj
  exact ⟨h1, hp, T, (hg.block b hl (by simpa using hp)).trans h3⟩
theorem Pad.al (h : Pad p w0 w L) (o : Obj) : Pad p w0 (w.alloc o) L := h.next (cur_alloc h.2.1 o) (grown_alloc (grown_refl _ _) o)
theorem cur_drew (h : Cur w p) : Cur w.drew p := by obtain ⟨a, len, cap, i, h, hp, hi, hs⟩ := h; exact ⟨a, len, cap, i, h, hp, hi, hs⟩
theorem Pad.nextB (h : Pad p w0 w L) (hb : Below w.heap.size w w') : Pad p w0 w' L := h.next (cur_below h.2.1 hb (cur_lt h.2.1)) ⟨hb.os, hb.tape, hb.output, hb.size, fun k hk _ => hb.block k hk⟩
theorem Pad.drew (h : Pad p w0 w L) : Pad p w0 w.drew L := h.next (cur_drew h.2.1) ⟨rfl, rfl, rfl, Nat.le_refl _, fun _ _ _ => rfl⟩
theorem Pad.more (h : Pad p w0 w L) (T : TypeId) (cs : Array Value) : Pad p w0 (w.alloc (.cells cs T)) (L ++ [(w.heap.size, cs)]) := by
  have hn := h.al (.cells cs T)
  have key : ∀ (j : Nat) b ds, (L ++ [(w.heap.size, cs)])[j]? = some (b, ds) → (L[j]? = some (b, ds) ∧ b < w.heap.size) ∨ (j = L.length ∧ b = w.heap.size ∧ ds = cs) := fun j b ds hj => by
    by_cases hl : j < L.length
    · rw [List.getElem?_append_left hl] at hj
      exact .inl ⟨hj, h.lt hj⟩
    · have hj' : j = L.length := by
        have := (List.getElem?_eq_some_iff.1 hj).1
        simp at this; omega
      subst hj'
      simp at hj
      exact .inr ⟨rfl, hj.1.symm, hj.2.symm⟩
  refine ⟨hn.1, hn.2.1, hn.2.2.1, fun j b ds hj => ?_, fun j k b ds es hj hk => ?_⟩
  · rcases key j b ds hj with ⟨h1, _⟩ | ⟨rfl, rfl, rfl⟩
    · exact hn.2.2.2.1 j b ds h1
    · exact ⟨h.2.2.1.size, by have := cur_lt h.2.1; omega, T, heap_alloc_new w _⟩
  · rcases key j b ds hj with ⟨h1, h1'⟩ | ⟨rfl, rfl, rfl⟩ <;> rcases key k _ es hk with ⟨h2, h2'⟩ | ⟨rfl, h2, rfl⟩
    · exact h.2.2.2.2 j k b ds es h1 h2
    · omega
    · omega
    · rfl
theorem Pad.moreAt (h : Pad p w0 w L) (b : Nat) (hb : b = w.heap.size) (T : TypeId) (cs : Array Value) : Pad p w0 (w.alloc (.cells cs T)) (L ++ [(b, cs)]) := by subst hb; exact h.more T cs
theorem Pad.cell (h : Pad p w0 w L) (j i : Nat) (hj : L[j]? = some (b, cs)) (hi : cs[i]? = some v) : w.cell? ⟨b, i, none⟩ = some v := by
  obtain ⟨_, _, T, h3⟩ := h.2.2.2.1 j b cs hj
  rw [World.cell?, h3]
  simpa using hi
theorem Pad.frozen (h : Pad p w0 w L) (j i : Nat) (hj : L[j]? = some (b, cs)) : w.frozen? ⟨b, i, none⟩ = false := by
  obtain ⟨_, _, T, h3⟩ := h.2.2.2.1 j b cs hj
  rw [World.frozen?, h3]; rfl
theorem Pad.ne (h : Pad p w0 w L) (j k : Nat) (hj : L[j]? = some (b, cs)) (hk : L[k]? = some (c, ds)) (hn : j ≠ k) : ¬ b = c := fun e => by
  subst e; exact hn (h.2.2.2.2 j k b cs ds hj hk)
theorem Pad.set (h : Pad p w0 w L) (j i : Nat) (hj : L[j]? = some (b, cs)) (v : Value) : Pad p w0 (w.setCell ⟨b, i, none⟩ v) (L.set j (b, cs.setIfInBounds i v)) := by
  have hjl : j < L.length := (List.getElem?_eq_some_iff.1 hj).1
  obtain ⟨h1, hp, T, h3⟩ := h.2.2.2.1 j b cs hj
  have key : ∀ (k : Nat) c ds, (L.set j (b, cs.setIfInBounds i v))[k]? = some (c, ds) → ∃ es, L[k]? = some (c, es) ∧ ((k = j ∧ ds = cs.setIfInBounds i v ∧ c = b) ∨ (k ≠ j ∧ es = ds)) := fun k c ds hk => by
    by_cases e : j = k
    · subst e
      rw [List.getElem?_set_self hjl] at hk
      simp only [Option.some.injEq, Prod.mk.injEq] at hk
      exact ⟨cs, by rw [hj, hk.1], .inl ⟨rfl, hk.2.symm, hk.1.symm⟩⟩
    · rw [List.getElem?_set_ne e] at hk
      exact ⟨ds, hk, .inr ⟨fun e' => e e'.symm, rfl⟩⟩
  refine ⟨h.1, cur_set_other h.2.1 (by have := h.1; omega), grown_setNew h.2.2.1 h1 i v, fun k c ds hk => ?_, fun k l c ds es hk hl => ?_⟩
  · obtain ⟨es, hk', hx⟩ := key k c ds hk
    obtain ⟨g1, gp, U, g3⟩ := h.2.2.2.1 k c es hk'
    rcases hx with ⟨rfl, rfl, rfl⟩ | ⟨hne, rfl⟩
    · rw [hj] at hk'
      simp only [Option.some.injEq, Prod.mk.injEq, true_and] at hk'
      subst hk'
      exact ⟨g1, gp, U, heap_setCell_same w _ i cs U v g3⟩
    · have hcb : ¬ c = b := fun e => by subst e; exact hne (h.2.2.2.2 k j c es cs hk' hj)
      exact ⟨g1, gp, U, (Below.heap_setCell _ _ _ _ (by simpa using hcb)).trans g3⟩
  · obtain ⟨_, hk', _⟩ := key k c ds hk
    obtain ⟨_, hl', _⟩ := key l c es hl
    exact h.2.2.2.2 k l c _ _ hk' hl'
theorem Pad.set2 (h : Pad p w0 w L) (j i : Nat) (hj : L[j]? = some (b, cs)) (u v : Value) : Pad p w0 ((w.setCell ⟨b, i, none⟩ u).setCell ⟨b, i + 1, none⟩ v) (L.set j (b, (cs.setIfInBounds i u).setIfInBounds (i + 1) v)) := by
  have h1 := (h.set j i hj u).set j (i + 1) (List.getElem?_set_self (List.getElem?_eq_some_iff.1 hj).1) v
  rwa [List.set_set] at h1
theorem Pad.set4 (h : Pad p w0 w L) (j : Nat) (hj : L[j]? = some (b, cs)) (v0 v1 v2 v3 : Value) :
    Pad p w0 ((((w.setCell ⟨b, 0, none⟩ v0).setCell ⟨b, 1, none⟩ v1).setCell ⟨b, 2, none⟩ v2).setCell ⟨b, 3, none⟩ v3) (L.set j (b, (((cs.setIfInBounds 0 v0).setIfInBounds 1 v1).setIfInBounds 2 v2).setIfInBounds 3 v3)) := by
  have h1 := (h.set2 j 0 hj v0 v1).set2 j 2 (List.getElem?_set_self (List.getElem?_eq_some_iff.1 hj).1) v2 v3
  rwa [List.set_set] at h1
theorem Pad.out (h : Pad p w0 w L) : Cur w p ∧ w0.grownBy w (some p) := ⟨h.2.1, h.2.2.1⟩
theorem Pad.c2 (h : Pad p w0 w L) (j : Nat) (hj : L[j]? = some (b, #[v0, v1])) : w.cell? ⟨b, 0, none⟩ = some v0 ∧ w.cell? ⟨b, 1, none⟩ = some v1 := ⟨h.cell j 0 hj rfl, h.cell j 1 hj rfl⟩
theorem Pad.c4 (h : Pad p w0 w L) (j : Nat) (hj : L[j]? = some (b, #[v0, v1, v2, v3])) : w.cell? ⟨b, 0, none⟩ = some v0 ∧ w.cell? ⟨b, 1, none⟩ = some v1 ∧ w.cell? ⟨b, 2, none⟩ = some v2 ∧ w.cell? ⟨b, 3, none⟩ = some v3 :=
  ⟨h.cell j 0 hj rfl, h.cell j 1 hj rfl, h.cell j 2 hj rfl, h.cell j 3 hj rfl⟩
theorem Pad.f2 (h : Pad p w0 w L) (j : Nat) (hj : L[j]? = some (b, cs)) : w.frozen? ⟨b, 0, none⟩ = false ∧ w.frozen? ⟨b, 1, none⟩ = false := ⟨h.frozen j 0 hj, h.frozen j 1 hj⟩
theorem Pad.f4 (h : Pad p w0 w L) (j : Nat) (hj : L[j]? = some (b, cs)) : w.frozen? ⟨b, 0, none⟩ = false ∧ w.frozen? ⟨b, 1, none⟩ = false ∧ w.frozen? ⟨b, 2, none⟩ = false ∧ w.frozen? ⟨b, 3, none⟩ = false :=
  ⟨h.frozen j 0 hj, h.frozen j 1 hj, h.frozen j 2 hj, h.frozen j 3 hj⟩
/-- Without the first ones. -/
theorem Pad.from_ (h : Pad p w0 w L) (n : Nat) : Pad p w0 w (L.drop n) := by
  refine ⟨h.1, h.2.1, h.2.2.1, fun j b cs hj => ?_, fun j k b cs ds hj hk => ?_⟩
  · rw [List.getElem?_drop] at hj; exact h.2.2.2.1 _ b cs hj
  · rw [List.getElem?_drop] at hj hk
    have := h.2.2.2.2 _ _ b cs ds hj hk; omega
/-- Variables of the call's own behind a call that writes a later cursor alone. -/
theorem Vars.nextG {l : List (Array Value)} (h : Vars w0 w l) (hg : w.grownBy w' (some p)) (hp : w0.heap.size + l.length ≤ p) : Vars w0 w' l := by
  refine ⟨below_grown h.1 hg h.1.size (by omega), Nat.le_trans h.2.1 hg.size, fun j x hj => ?_⟩
  have hl : j < l.length := (List.getElem?_eq_some_iff.1 hj).1
  have h2 := h.2.1
  obtain ⟨T, h3⟩ := h.2.2 j x hj
  exact ⟨T, (hg.block _ (by omega) (by simp; omega)).trans h3⟩
end
end Go.Proofs.YtkeljibnjpinlaaDoor
