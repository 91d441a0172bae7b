/- Marks over features: what they lay, and what they leave. -/
import Derived.Test.YtbnjaaegbmhopaaGreatDoorFeatL
import Derived.Test.YtbnjaaegbmhopaaGreatDoorHelpM
import Derived.Test.YtbnjaaegbmhopaaGreatDoorMarkT
namespace Go.Proofs.YtbnjaaegbmhopaaGreatDoor
open Go.ChangeShapes Go.WideShapes Go.ChangeAt Go.RowKit
set_option linter.unusedVariables false

/-- What a mark lays over one feature, over a list, and the next number. -/
def mkF1 (k : Nat) (f : Feat) : Feat := ((k : Int), (k : Int) + 1, (k : Int) + 2, mkV ((k : Int) + 3), mkPoint (k + 4) f.2.2.2.2.length)
def mkFn (k : Nat) (f : Feat) : Nat := k + 4 + f.2.2.2.2.length * 2
def mkFs : Nat → List Feat → List Feat
  | _, [] => []
  | k, f :: t => mkF1 k f :: mkFs (mkFn k f) t
def mkFq : Nat → List Feat → Nat
  | k, [] => k
  | k, f :: t => mkFq (mkFn k f) t
theorem mkFs_len (l : List Feat) : ∀ k, (mkFs k l).length = l.length := by
  induction l with
  | nil => intro k; rfl
  | cons f t ih => intro k; simp [mkFs, ih]
theorem mkFq_app (l l2 : List Feat) : ∀ k, mkFq k (l ++ l2) = mkFq (mkFq k l) l2 := by
  induction l with
  | nil => intro k; rfl
  | cons f t ih => intro k; simp [mkFq, ih]
theorem mkFs_app (l l2 : List Feat) : ∀ k, mkFs k (l ++ l2) = mkFs k l ++ mkFs (mkFq k l) l2 := by
  induction l with
  | nil => intro k; rfl
  | cons f t ih => intro k; simp [mkFs, mkFq, ih]
theorem mkFq_le (l : List Feat) : ∀ k, k ≤ mkFq k l := by
  induction l with
  | nil => intro k; exact Nat.le_refl _
  | cons f t ih => intro k; have := ih (mkFn k f); simp only [mkFq]; unfold mkFn at this ⊢; omega
theorem take_succF {l : List Feat} {j : Nat} {f : Feat} (h : l[j]? = some f) : l.take (j + 1) = l.take j ++ [f] := by
  rw [List.take_add_one, h]; rfl
theorem mkFq_succ {l : List Feat} {j : Nat} {f : Feat} (k : Nat) (h : l[j]? = some f) : mkFq k (l.take (j + 1)) = mkFn (mkFq k (l.take j)) f := by
  rw [take_succF h, mkFq_app]; rfl
theorem mkFq_take (l : List Feat) (k j : Nat) : mkFq k (l.take j) ≤ mkFq k l := by
  have := mkFq_app (l.take j) (l.drop j) k
  rw [List.take_append_drop] at this
  rw [this]
  exact mkFq_le _ _
/-- The list in the middle of a walk. -/
def mkMid (k j : Nat) (l : List Feat) : List Feat := mkFs k (l.take j) ++ l.drop j
theorem mkMid_zero (k : Nat) (l : List Feat) : mkMid k 0 l = l := rfl
theorem mkMid_all (k : Nat) (l : List Feat) : mkMid k l.length l = mkFs k l := by simp [mkMid]
theorem mkMid_at {k j : Nat} {l : List Feat} {f : Feat} (h : l[j]? = some f) : (mkMid k j l)[j]? = some f := by
  have hj := (List.getElem?_eq_some_iff.1 h).1
  unfold mkMid
  rw [List.getElem?_append_right (by rw [mkFs_len, List.length_take]; omega), mkFs_len, List.length_take, List.getElem?_drop]
  rw [show j + (j - min j l.length) = j by omega]; exact h
theorem mkMid_succ {k j : Nat} {l : List Feat} {f : Feat} (h : l[j]? = some f) : mkMid k (j + 1) l = (mkMid k j l).set j (mkF1 (mkFq k (l.take j)) f) := by
  have hj := (List.getElem?_eq_some_iff.1 h).1
  have hd : l.drop j = f :: l.drop (j + 1) := by
    rw [List.drop_eq_getElem_cons hj]
    congr 1
    exact (List.getElem?_eq_some_iff.1 h).2
  unfold mkMid
  rw [take_succF h, mkFs_app, hd, List.set_append_right _ _ (by rw [mkFs_len, List.length_take]; omega), mkFs_len, List.length_take, show j - min j l.length = 0 by omega]
  simp [mkFs]
theorem mkFs_get {l : List Feat} {j : Nat} {f : Feat} (k : Nat) (h : l[j]? = some f) : (mkFs k l)[j]? = some (mkF1 (mkFq k (l.take j)) f) := by
  have hj := (List.getElem?_eq_some_iff.1 h).1
  have e : l = l.take j ++ f :: l.drop (j + 1) := by
    have hd : l.drop j = f :: l.drop (j + 1) := by
      rw [List.drop_eq_getElem_cons hj]; congr 1; exact (List.getElem?_eq_some_iff.1 h).2
    rw [← hd, List.take_append_drop]
  have e2 := congrArg (mkFs k) e
  rw [mkFs_app] at e2
  rw [e2, List.getElem?_append_right (by rw [mkFs_len, List.length_take]; omega), mkFs_len, List.length_take, show j - min j l.length = 0 by omega]
  rfl

/-- Nothing outside the blocks from lo to hi has changed. -/
structure Within (lo hi : Nat) (w w' : World) : Prop where
  os : w'.os = w.os
  tape : w'.tape = w.tape
  output : w'.output = w.output
  size : w.heap.size ≤ w'.heap.size
  block : ∀ k, k < w.heap.size → (k < lo ∨ hi ≤ k) → w'.heap[k]? = w.heap[k]?
section
variable {w w' w'' w0 : World} {lo hi lo' hi' : Nat} {v : Value} {l : List Feat} {r : Option Nat}
theorem Within.refl (lo hi : Nat) (w : World) : Within lo hi w w := ⟨rfl, rfl, rfl, Nat.le_refl _, fun _ _ _ => rfl⟩
theorem Within.trans (h : Within lo hi w w') (k : Within lo hi w' w'') : Within lo hi w w'' :=
  ⟨k.os.trans h.os, k.tape.trans h.tape, k.output.trans h.output, Nat.le_trans h.size k.size, fun i hi' ho => (k.block i (Nat.lt_of_lt_of_le hi' h.size) ho).trans (h.block i hi' ho)⟩
theorem Within.of (lo hi : Nat) (h : Below w.heap.size w w') : Within lo hi w w' := ⟨h.os, h.tape, h.output, h.size, fun k hk _ => h.block k hk⟩
theorem Within.grown (h : w.grownBy w' r) (hr : ∀ g, r = some g → lo ≤ g ∧ g < hi) : Within lo hi w w' :=
  ⟨h.os, h.tape, h.output, h.size, fun k hk ho => h.block k hk fun e => by have := hr k e.symm; omega⟩
theorem Within.cell {g : Nat} (h1 : lo ≤ g) (h2 : g < hi) (i : Nat) (u : Value) : Within lo hi w (w.setCell ⟨g, i, none⟩ u) :=
  Within.grown (growE_setCell (World.grownBy.refl w (some g)) i u) fun g' e => by simp only [Option.some.injEq] at e; subst e; exact ⟨h1, h2⟩
theorem Within.below {B : Nat} (h : Within lo hi w w') (hB : B ≤ lo) (hw : B ≤ w.heap.size) : Below B w w' := ⟨h.os, h.tape, h.output, h.size, fun k hk => h.block k (Nat.lt_of_lt_of_le hk hw) (.inl (Nat.lt_of_lt_of_le hk hB))⟩
theorem OwnE.within {α : Type} {n : Nat} {enc : α → List Value} {B : Nat} {e : TypeId} {L : List α} (h : OwnE n enc w B e v L) (hw : Within lo hi w w') (hv : ∀ g, v.ownBlock = some g → g < lo ∨ hi ≤ g) : OwnE n enc w' B e v L := by
  have hlt := h.lt
  refine ⟨h.1, ?_⟩
  rcases h.2 with hn | ⟨g, cap, cur, rfl, hB, hg, rest⟩
  · exact .inl hn
  · exact .inr ⟨g, cap, cur, rfl, hB, (hw.block g (hlt g rfl).2 (hv g rfl)).trans hg, rest⟩
theorem HeldE.within {α : Type} {n : Nat} {enc : α → List Value} {e : TypeId} {L : List α} (h : HeldE n enc w lo' hi' e v L) (hd : hi' ≤ lo ∨ hi ≤ lo') (hw : Within lo hi w w') : HeldE n enc w' lo' hi' e v L :=
  ⟨h.1.within hw fun g hg => by have := (h.1.lt g hg).1; have := h.2.1 g hg; omega, h.2.1, Nat.le_trans h.2.2 hw.size⟩

/-- A slice of features that the call holds: all its blocks lie from lo to hi. -/
def HeldF (w : World) (lo hi : Nat) (v : Value) (l : List Feat) : Prop :=
  ∃ xs, OwnE 5 encF w lo 41 v xs ∧ RowsF w lo v xs l ∧ (∀ g, v.ownBlock = some g → g < hi) ∧ (∀ (j : Nat) x b, xs[j]? = some x → (slF x).ownBlock = some b → b < hi) ∧ hi ≤ w.heap.size
theorem HeldF.own (h : HeldF w lo hi v l) : OwnF w lo v l := by obtain ⟨xs, h1, h2, _⟩ := h; exact ⟨xs, h1, h2⟩
theorem OwnF.held (h : OwnF w lo v l) : HeldF w lo w.heap.size v l := by
  obtain ⟨xs, h1, h2⟩ := h
  refine ⟨xs, h1, h2, fun g hg => (h1.lt g hg).2, fun j x b hx hb => ?_, Nat.le_refl _⟩
  obtain ⟨f, hf⟩ : ∃ f, l[j]? = some f := ⟨_, List.getElem?_eq_getElem (by rw [← h2.1]; exact (List.getElem?_eq_some_iff.1 hx).1)⟩
  exact ((h2.2.2 j x f hx hf).2.1.lt b hb).2
theorem HeldF.belowAll (h : HeldF w lo hi v l) (hb : Below w.heap.size w w') : HeldF w' lo hi v l := by
  obtain ⟨xs, h1, h2, h3, h4, h5⟩ := h
  exact ⟨xs, h1.belowAll hb, h2.belowAll hb, h3, h4, Nat.le_trans h5 hb.size⟩
theorem HeldF.within (h : HeldF w lo' hi' v l) (hd : hi' ≤ lo ∨ hi ≤ lo') (hw : Within lo hi w w') : HeldF w' lo' hi' v l := by
  obtain ⟨xs, h1, h2, h3, h4, h5⟩ := h
  refine ⟨xs, h1.within hw fun g hg => by have := (h1.lt g hg).1; have := h3 g hg; omega, ⟨h2.1, h2.2.1, fun j x f hx hf => ?_⟩, h3, h4, Nat.le_trans h5 hw.size⟩
  obtain ⟨a, b, c⟩ := h2.2.2 j x f hx hf
  exact ⟨a, b.within hw fun g hg => by have := (b.lt g hg).1; have := h4 j x g hx hg; omega, c⟩
theorem HeldF.sees {A : Option Addr} {m c : Nat} (h : HeldF w lo hi (.slice A m c) l) : SeesF w w.heap.size A l := h.own.sees
/-- One feature of the rows is marked. -/
theorem RowsF.mark {xs : List FCel} {j : Nat} {x x' : FCel} {f f' : Feat} (h : RowsF w lo v xs l) (hx : xs[j]? = some x) (hf : l[j]? = some f) (hg : w.grownBy w' (slF x).ownBlock)
    (hs : slF x' = slF x) (hS : Shal x' f') (ho : OwnE 2 encPoint w' lo 33 (slF x) f'.2.2.2.2) : RowsF w' lo v (xs.set j x') (l.set j f') := by
  have hjx := (List.getElem?_eq_some_iff.1 hx).1
  have hjl := (List.getElem?_eq_some_iff.1 hf).1
  have key : ∀ (i : Nat) y, (xs.set j x')[i]? = some y → ∃ y0, xs[i]? = some y0 ∧ slF y = slF y0 := fun i y hy => by
    by_cases hij : i = j
    · subst hij
      rw [List.getElem?_set_self hjx] at hy
      obtain rfl : x' = y := by simpa using hy
      exact ⟨x, hx, hs⟩
    · rw [List.getElem?_set_ne (fun e => hij e.symm)] at hy
      exact ⟨y, hy, rfl⟩
  refine ⟨by simp [h.1], fun i k y z b hik hy hz hb => ?_, fun i y g hy hgg => ?_⟩
  · obtain ⟨y0, hy0, e1⟩ := key i y hy
    obtain ⟨z0, hz0, e2⟩ := key k z hz
    rw [e1] at hb
    rw [e2]
    exact h.2.1 i k y0 z0 b hik hy0 hz0 hb
  · by_cases hij : i = j
    · subst hij
      rw [List.getElem?_set_self hjx] at hy
      rw [List.getElem?_set_self hjl] at hgg
      obtain rfl : x' = y := by simpa using hy
      obtain rfl : f' = g := by simpa using hgg
      refine ⟨hS, hs ▸ ho, fun b hb => ?_⟩
      rw [hs] at hb
      exact (h.2.2 i x f hx hf).2.2 b hb
    · rw [List.getElem?_set_ne (fun e => hij e.symm)] at hy hgg
      obtain ⟨a, b, c⟩ := h.2.2 i y g hy hgg
      refine ⟨a, b.kept hg ?_, c⟩
      match hv : (slF y).ownBlock with
      | none => exact .inl rfl
      | some p => exact .inr fun e => h.2.1 i j y x p hij hy hx hv (e ▸ rfl)
end
end Go.Proofs.YtbnjaaegbmhopaaGreatDoor
