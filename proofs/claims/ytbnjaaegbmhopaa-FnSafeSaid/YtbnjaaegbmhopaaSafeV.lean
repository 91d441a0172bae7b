/- Lines that never cross: values. -/
import Derived.Test.YtbnjaaegbmhopaaSimpF
namespace Go.Proofs.Ytbnjaaegbmhopaa
set_option linter.unusedVariables false

/-- The line without one point. -/
def dropL (l : List (Int × Int)) (i : Nat) : List (Int × Int) := l.take i ++ l.drop (i + 1)
theorem dropL_len {l : List (Int × Int)} {i : Nat} (h : i < l.length) : (dropL l i).length = l.length - 1 := by
  unfold dropL; rw [List.length_append, List.length_take, List.length_drop]; omega
theorem dropL_erase (l : List (Int × Int)) (i : Nat) : dropL l i = l.eraseIdx i := by
  unfold dropL; rw [List.eraseIdx_eq_take_drop_succ]
theorem dropL_sub (l : List (Int × Int)) (i : Nat) : (dropL l i).Sublist l := by rw [dropL_erase]; exact List.eraseIdx_sublist l i
/-- Is the index that of a corner? -/
def midB (l : List (Int × Int)) (i : Int) : Bool := isLn l && inB i 1 ((l.length : Int) - 2)
theorem midB_at {l : List (Int × Int)} {i : Int} (h : midB l i = true) : isLn l = true ∧ ∃ j : Nat, i = (j : Int) ∧ 1 ≤ j ∧ j + 1 < l.length := by
  simp only [midB, inB, Bool.and_eq_true, decide_eq_true_eq] at h
  exact ⟨h.1, i.toNat, by omega, by omega, by omega⟩
theorem midB_nat {l : List (Int × Int)} {j : Nat} (hl : isLn l = true) (h : 1 ≤ j) (h' : j + 1 < l.length) : midB l (j : Int) = true := by
  simp only [midB, inB, hl, Bool.true_and, decide_eq_true_eq]; omega
/-- Can the point be left out of the list, so that a line is left? -/
def dropOk (l : List (Int × Int)) (i : Int) : Bool := midB l i && isLn (dropL l i.toNat)
def dropV (l : List (Int × Int)) (i : Int) : List (Int × Int) := if dropOk l i = true then dropL l i.toNat else l
theorem dropV_yes {l : List (Int × Int)} {i : Int} (h : dropOk l i = true) : dropV l i = dropL l i.toNat := by unfold dropV; rw [if_pos h]
theorem dropV_no {l : List (Int × Int)} {i : Int} (h : dropOk l i = false) : dropV l i = l := by unfold dropV; rw [h]; rfl
theorem dropOk_at {l : List (Int × Int)} {i : Int} (h : dropOk l i = true) : isLn l = true ∧ isLn (dropL l i.toNat) = true ∧ ∃ j : Nat, i = (j : Int) ∧ 1 ≤ j ∧ j + 1 < l.length := by
  unfold dropOk at h
  rw [Bool.and_eq_true] at h
  exact ⟨(midB_at h.1).1, h.2, (midB_at h.1).2⟩
theorem dropV_sub (l : List (Int × Int)) (i : Int) : (dropV l i).Sublist l := by
  unfold dropV; split
  · exact dropL_sub l _
  · exact List.Sublist.refl _
theorem dropV_len (l : List (Int × Int)) (i : Int) : (dropV l i).length ≤ l.length := (dropV_sub l i).length_le
/-- What FnSafe says of DropPoint. -/
theorem drop_one {l : List (Int × Int)} {i : Int} (h : dropOk l i = true) : (dropV l i).length + 1 = l.length := by
  obtain ⟨-, -, j, rfl, h1, h2⟩ := dropOk_at h
  rw [dropV_yes h, dropL_len (by omega)]; omega
theorem absV_eq (z : Int) : (z.natAbs : Int) = max z (-z) := by omega
/-- Twice the area at a corner, or -1. -/
def crnJ (l : List (Int × Int)) (j : Nat) : Int := crsD (ptA l (j - 1)).1 (ptA l (j - 1)).2 (ptA l j).1 (ptA l j).2 (ptA l (j + 1)).1 (ptA l (j + 1)).2
def crnV (l : List (Int × Int)) (i : Int) : Int := if midB l i = true then max (crnJ l i.toNat) (-(crnJ l i.toNat)) else -1
theorem crnV_yes {l : List (Int × Int)} {i : Int} (h : midB l i = true) : crnV l i = max (crnJ l i.toNat) (-(crnJ l i.toNat)) := by unfold crnV; rw [if_pos h]
theorem crnV_no {l : List (Int × Int)} {i : Int} (h : midB l i = false) : crnV l i = -1 := by unfold crnV; rw [h]; rfl
/-- How two lines meet. -/
def mtL (a b : List (Int × Int)) : Int := mtV (sgV a) (sgV b)
/-- No meeting with any of the others is greater. -/
def noMtB (d l : List (Int × Int)) (O : List (List (Int × Int))) : Bool := O.all fun o => decide (mtL d o ≤ mtL l o)
def canV (l : List (Int × Int)) (i : Int) (O : List (List (Int × Int))) : Bool := dropOk l i && (smpV (dropV l i) && noMtB (dropV l i) l O)
def mtsV (l : List (Int × Int)) (O : List (List (Int × Int))) : List Int := O.map (mtL l)
/-- The corner that is dropped next: of the first t corners; -1 if none. -/
def cutS (l : List (Int × Int)) (O : List (List (Int × Int))) (least : Int) : Nat → Int
  | 0 => -1
  | t + 1 => if crnV l ((t + 1 : Nat) : Int) < least ∧ (cutS l O least t < 0 ∨ crnV l ((t + 1 : Nat) : Int) < crnV l (cutS l O least t)) ∧ canV l ((t + 1 : Nat) : Int) O = true then ((t + 1 : Nat) : Int) else cutS l O least t
def cutV (l : List (Int × Int)) (O : List (List (Int × Int))) (least : Int) : Int := cutS l O least (l.length - 2)
theorem cutS_range (l : List (Int × Int)) (O : List (List (Int × Int))) (least : Int) : ∀ t, cutS l O least t = -1 ∨ (∃ b : Nat, cutS l O least t = (b : Int) ∧ 1 ≤ b ∧ b ≤ t ∧ crnV l (b : Int) < least ∧ canV l (b : Int) O = true)
  | 0 => .inl rfl
  | t + 1 => by
    unfold cutS
    split
    · next h => exact .inr ⟨t + 1, rfl, by omega, by omega, h.1, h.2.2⟩
    · rcases cutS_range l O least t with h | ⟨b, h1, h2, h3, h4⟩
      · exact .inl h
      · exact .inr ⟨b, h1, h2, by omega, h4⟩
theorem cutS_none {l : List (Int × Int)} {O : List (List (Int × Int))} {least : Int} : ∀ {t : Nat}, cutS l O least t < 0 → ∀ j : Nat, 1 ≤ j → j ≤ t → crnV l (j : Int) < least → canV l (j : Int) O = false
  | 0, _, j, h1, h2, _ => by omega
  | t + 1, h, j, h1, h2, h3 => by
    unfold cutS at h
    split at h
    · exact absurd h (by omega)
    · next hn =>
      by_cases e : j = t + 1
      · subst e
        cases hq : canV l ((t + 1 : Nat) : Int) O
        · rfl
        · exact absurd ⟨h3, .inl h, hq⟩ hn
      · exact cutS_none h j h1 (by omega) h3
theorem cutS_yes {l : List (Int × Int)} {O : List (List (Int × Int))} {least : Int} {t : Nat} (h : crnV l ((t + 1 : Nat) : Int) < least ∧ (cutS l O least t < 0 ∨ crnV l ((t + 1 : Nat) : Int) < crnV l (cutS l O least t)) ∧ canV l ((t + 1 : Nat) : Int) O = true) : cutS l O least (t + 1) = ((t + 1 : Nat) : Int) := by rw [cutS, if_pos h]
theorem cutS_no {l : List (Int × Int)} {O : List (List (Int × Int))} {least : Int} {t : Nat} (h : ¬ (crnV l ((t + 1 : Nat) : Int) < least ∧ (cutS l O least t < 0 ∨ crnV l ((t + 1 : Nat) : Int) < crnV l (cutS l O least t)) ∧ canV l ((t + 1 : Nat) : Int) O = true)) : cutS l O least (t + 1) = cutS l O least t := by rw [cutS, if_neg h]
/-- What is left after k rounds. -/
def safeS (O : List (List (Int × Int))) (least : Int) : Nat → List (Int × Int) → List (Int × Int)
  | 0, l => l
  | k + 1, l => if cutV l O least < 0 then l else safeS O least k (dropV l (cutV l O least))
def safeV (l : List (Int × Int)) (O : List (List (Int × Int))) (least : Int) : List (Int × Int) := if smpV l = true then safeS O least l.length l else l
/-- One round leaves a simple line with the same ends, in which no meeting is greater. -/
def LikeS (k l : List (Int × Int)) (O : List (List (Int × Int))) : Prop := k.Sublist l ∧ (smpV l = true → smpV k = true) ∧ (isLn l = true → isLn k = true) ∧ (isLn l = true → ptA k 0 = ptA l 0 ∧ ptA k (k.length - 1) = ptA l (l.length - 1)) ∧ ∀ o ∈ O, mtL k o ≤ mtL l o
theorem LikeS.refl (l : List (Int × Int)) (O : List (List (Int × Int))) : LikeS l l O := ⟨List.Sublist.refl _, id, id, fun _ => ⟨rfl, rfl⟩, fun _ _ => Int.le_refl _⟩
theorem LikeS.trans {a b c : List (Int × Int)} {O : List (List (Int × Int))} (h : LikeS a b O) (h' : LikeS b c O) : LikeS a c O :=
  ⟨h.1.trans h'.1, fun x => h.2.1 (h'.2.1 x), fun x => h.2.2.1 (h'.2.2.1 x), fun x => ⟨(h.2.2.2.1 (h'.2.2.1 x)).1.trans (h'.2.2.2.1 x).1, (h.2.2.2.1 (h'.2.2.1 x)).2.trans (h'.2.2.2.1 x).2⟩, fun o ho => Int.le_trans (h.2.2.2.2 o ho) (h'.2.2.2.2 o ho)⟩
theorem ptA_app1 {a b : List (Int × Int)} {i : Nat} (h : i < a.length) : ptA (a ++ b) i = ptA a i := by unfold ptA List.getD; rw [List.getElem?_append_left h]
theorem ptA_app2 {a b : List (Int × Int)} {i : Nat} (h : a.length ≤ i) : ptA (a ++ b) i = ptA b (i - a.length) := by unfold ptA List.getD; rw [List.getElem?_append_right h]
theorem LikeS.drop {l : List (Int × Int)} {i : Int} {O : List (List (Int × Int))} (h : canV l i O = true) : LikeS (dropV l i) l O := by
  unfold canV at h
  simp only [Bool.and_eq_true] at h
  obtain ⟨h1, h2, h3⟩ := h
  obtain ⟨hl, hd, j, rfl, g1, g2⟩ := dropOk_at h1
  rw [dropV_yes h1] at h2 h3 ⊢
  simp only [Int.toNat_natCast] at h2 h3 hd ⊢
  refine ⟨dropL_sub l j, fun _ => h2, fun _ => hd, fun _ => ⟨?_, ?_⟩, fun o ho => ?_⟩
  · unfold dropL
    rw [ptA_app1 (by rw [List.length_take]; omega)]
    unfold ptA List.getD
    rw [List.getElem?_take, if_pos (by omega)]
  · rw [dropL_len (by omega)]
    unfold dropL
    rw [ptA_app2 (by rw [List.length_take]; omega), List.length_take]
    unfold ptA List.getD
    rw [List.getElem?_drop, show j + 1 + (l.length - 1 - 1 - min j l.length) = l.length - 1 by omega]
  · unfold noMtB at h3
    rw [List.all_eq_true] at h3
    exact of_decide_eq_true (h3 o ho)
theorem cutV_at {l : List (Int × Int)} {O : List (List (Int × Int))} {least : Int} (h : ¬ cutV l O least < 0) : ∃ b : Nat, cutV l O least = (b : Int) ∧ 1 ≤ b ∧ b + 1 < l.length ∧ canV l (b : Int) O = true := by
  rcases cutS_range l O least (l.length - 2) with h1 | ⟨b, h1, h2, h3, -, h5⟩
  · unfold cutV at h; omega
  · exact ⟨b, h1, h2, by omega, h5⟩
theorem safeS_like (O : List (List (Int × Int))) (least : Int) : ∀ (k : Nat) (l : List (Int × Int)), LikeS (safeS O least k l) l O
  | 0, l => LikeS.refl l O
  | k + 1, l => by
    unfold safeS
    split
    · exact LikeS.refl l O
    · next h =>
      obtain ⟨b, e, -, -, hc⟩ := cutV_at h
      rw [e]
      exact (safeS_like O least k _).trans (LikeS.drop hc)
theorem safeS_done (O : List (List (Int × Int))) (least : Int) : ∀ (k : Nat) (l : List (Int × Int)), l.length ≤ k + 2 → cutV (safeS O least k l) O least < 0
  | 0, l, h => by
    unfold safeS cutV
    rw [show l.length - 2 = 0 by omega]; unfold cutS; omega
  | k + 1, l, h => by
    unfold safeS
    split
    · next hc => exact hc
    · next hc =>
      obtain ⟨b, e, h1, h2, hb⟩ := cutV_at hc
      rw [e]
      refine safeS_done O least k _ ?_
      have hd : dropOk l (b : Int) = true := by unfold canV at hb; simp only [Bool.and_eq_true] at hb; exact hb.1
      have := drop_one hd
      omega
theorem safeV_like (l : List (Int × Int)) (O : List (List (Int × Int))) (least : Int) : LikeS (safeV l O least) l O := by
  unfold safeV; split
  · exact safeS_like O least _ l
  · exact LikeS.refl l O
theorem safeV_done {l : List (Int × Int)} {O : List (List (Int × Int))} {least : Int} (h : smpV l = true) : cutV (safeV l O least) O least < 0 := by
  unfold safeV; rw [if_pos h]
  exact safeS_done O least _ l (by omega)
/-- No corner is left that is small and can be dropped. -/
theorem safeV_none {l : List (Int × Int)} {O : List (List (Int × Int))} {least : Int} (h : smpV l = true) {j : Nat} (h1 : 1 ≤ j) (h2 : j + 1 < (safeV l O least).length) (h3 : crnV (safeV l O least) (j : Int) < least) : canV (safeV l O least) (j : Int) O = false :=
  cutS_none (safeV_done h) j h1 (by omega) h3
theorem safeV_no {l : List (Int × Int)} {O : List (List (Int × Int))} {least : Int} (h : smpV l = false) : safeV l O least = l := by unfold safeV; rw [h]; rfl
theorem safeV_len (l : List (Int × Int)) (O : List (List (Int × Int))) (least : Int) : (safeV l O least).length ≤ l.length := (safeV_like l O least).1.length_le
/-- One more round. -/
theorem safe_step {l : List (Int × Int)} {O : List (List (Int × Int))} {least : Int} {b : Nat} {k : Nat} (h : cutV l O least = (b : Int)) : safeS O least (k + 1) l = safeS O least k (dropV l (b : Int)) := by
  rw [safeS, h, if_neg (by omega)]
theorem safe_stop {l : List (Int × Int)} {O : List (List (Int × Int))} {least : Int} {k : Nat} (h : cutV l O least < 0) : safeS O least k l = l := by
  cases k with
  | zero => rfl
  | succ k => rw [safeS, if_pos h]
end Go.Proofs.Ytbnjaaegbmhopaa
