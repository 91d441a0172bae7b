/- Small features, and frames of what a law holds while it marks: for the exact laws. -/
import Derived.Test.YtbnjaaegbmhopaaGreatDoorHeldF
import Derived.Test.YtbnjaaegbmhopaaGreatDoorMarkQ
import Derived.Test.YtbnjaaegbmhopaaGreatDoorOneVar
namespace Go.Proofs.YtbnjaaegbmhopaaGreatDoor
open Go.ChangeShapes Go.WideShapes Go.ChangeAt Go.RowKit
set_option linter.unusedVariables false

theorem few_pts {l : List Feat} (h : ptsF l ≤ 274877906944) : FewP l := by
  have key : ∀ (l : List Feat) (f : Feat), f ∈ l → f.2.2.2.2.length ≤ ptsF l := by
    intro l
    induction l with
    | nil => intro f h; simp at h
    | cons g t ih =>
      intro f h
      simp only [ptsF]
      rcases List.mem_cons.1 h with rfl | h
      · omega
      · have := ih f h; omega
  intro j f hf
  exact Nat.le_trans (key l f (List.mem_of_getElem? hf)) h
theorem small_le {left : Int} {l : List Feat} (hl : left ≤ 1048576) (h : 0 ≤ szS left l) : l.length ≤ 1048576 ∧ SmallF l ∧ ptsF l ≤ 1048576 ∧ szS left l ≤ left := by
  obtain ⟨h1, h4, h2⟩ := szS_ok h
  have h3 := szS_pts h
  refine ⟨by omega, fun j f hf => ?_, by omega, h4⟩
  have := h2 f (List.mem_of_getElem? hf)
  unfold maxLen
  omega
section
variable {w0 w w' : World} {l : List (Array Value)} {m b lo hi : Nat} {cs : Array Value}
theorem Vars.within (h : Vars w0 w l) (hw : Within lo hi w w') (hlo : w0.heap.size + l.length ≤ lo) : Vars w0 w' l := by
  refine ⟨h.1.trans (hw.below (B := w0.heap.size) (by omega) h.1.size), Nat.le_trans h.2.1 hw.size, fun j x hj => ?_⟩
  have hl : j < l.length := (List.getElem?_eq_some_iff.1 hj).1
  have h2 := h.2.1
  obtain ⟨T, h3⟩ := h.2.2 j x hj
  exact ⟨T, (hw.block _ (by omega) (.inl (by omega))).trans h3⟩
theorem OneV.within (h : OneV m w b cs) (hw : Within lo hi w w') (hb : b < lo ∨ hi ≤ b) : OneV m w' b cs := by
  have hl := h.lt
  obtain ⟨h1, T, h3⟩ := h
  exact ⟨h1, T, (hw.block _ hl hb).trans h3⟩
theorem OneV.five {v0 v1 v2 v3 v4 : Value} (h : OneV m w b #[v0, v1, v2, v3, v4]) : w.cell? ⟨b, 0, none⟩ = some v0 ∧ w.cell? ⟨b, 1, none⟩ = some v1 ∧ w.cell? ⟨b, 2, none⟩ = some v2 ∧ w.cell? ⟨b, 3, none⟩ = some v3 ∧ w.cell? ⟨b, 4, none⟩ = some v4 :=
  ⟨h.cell 0 rfl, h.cell 1 rfl, h.cell 2 rfl, h.cell 3 rfl, h.cell 4 rfl⟩
theorem Vars.fiveAt {v0 v1 v2 v3 v4 : Value} (h : Vars w0 w l) (b j : Nat) (hb : b = w0.heap.size + j) (hj : l[j]? = some #[v0, v1, v2, v3, v4]) : w.cell? ⟨b, 0, none⟩ = some v0 ∧ w.cell? ⟨b, 1, none⟩ = some v1 ∧ w.cell? ⟨b, 2, none⟩ = some v2 ∧ w.cell? ⟨b, 3, none⟩ = some v3 ∧ w.cell? ⟨b, 4, none⟩ = some v4 :=
  ⟨h.cell _ j 0 hb hj rfl, h.cell _ j 1 hb hj rfl, h.cell _ j 2 hb hj rfl, h.cell _ j 3 hb hj rfl, h.cell _ j 4 hb hj rfl⟩
end
theorem HeldE.wits {α : Type} {n : Nat} {enc : α → List Value} {w w' : World} {lo hi : Nat} {e : TypeId} {v : Value} {L : List α} (h : HeldE n enc w lo hi e v L) (hg : w.grownBy w' v.ownBlock) : Within lo hi w w' :=
  Within.grown hg fun g hg' => ⟨(h.1.lt g hg').1, h.2.1 g hg'⟩
theorem HeldE.caps {α : Type} {n : Nat} {enc : α → List Value} {w : World} {lo hi m c : Nat} {e : TypeId} {A : Option Addr} {L : List α} (h : HeldE n enc w lo hi e (.slice A m c) L) : L.length ≤ c ∧ (c : Int) ≤ 9223372036854775807 := (own_caps h.1).2
theorem HeldF.caps {w : World} {lo hi m c : Nat} {A : Option Addr} {l : List Feat} (h : HeldF w lo hi (.slice A m c) l) : l.length ≤ c ∧ (c : Int) ≤ 9223372036854775807 := own_capsF h.own
end Go.Proofs.YtbnjaaegbmhopaaGreatDoor
