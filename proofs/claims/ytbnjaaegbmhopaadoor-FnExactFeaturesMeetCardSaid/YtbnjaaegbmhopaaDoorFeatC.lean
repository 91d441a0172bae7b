/- Features: l9Feature and l9Copy of the model. -/
import Derived.Test.YtbnjaaegbmhopaaDoorFeatO
import Derived.Test.YtbnjaaegbmhopaaDoorFeatS
import Derived.Test.YtbnjaaegbmhopaaDoorVars2
import Derived.LoopTactic
import Derived.Deep.RegionHeld3
import Derived.Deep.DeepCutAuto
namespace Go.Proofs.YtbnjaaegbmhopaaDoor
open Go.ChangeShapes Go.WideShapes Go.ChangeAt Go.RowKit
set_option linter.unusedVariables false

theorem Vars.keepB {w0 w w' : World} {l : List (Array Value)} {B : Nat} (h : Vars w0 w l) (hb : Below B w w') (hB : w0.heap.size + l.length ≤ B) : Vars w0 w' l := by
  refine ⟨h.1.trans (hb.mono (by omega)), Nat.le_trans h.2.1 hb.size, fun j x hj => ?_⟩
  have hl : j < l.length := (List.getElem?_eq_some_iff.1 hj).1
  obtain ⟨T, h3⟩ := h.2.2 j x hj
  exact ⟨T, (hb.block _ (by omega)).trans h3⟩
theorem Vars.f50 {w0 w : World} {l : List (Array Value)} {cs : Array Value} (h : Vars w0 w (cs :: l)) (i : Nat) : w.frozen? ⟨w0.heap.size, i, none⟩ = false := h.frozen w0.heap.size 0 i rfl rfl
theorem Vars.f51 {w0 w : World} {l : List (Array Value)} {cs cs' : Array Value} (h : Vars w0 w (cs :: cs' :: l)) : w.frozen? ⟨w0.heap.size + 1, 0, none⟩ = false ∧ w.frozen? ⟨w0.heap.size + 1, 1, none⟩ = false ∧ w.frozen? ⟨w0.heap.size + 1, 2, none⟩ = false ∧ w.frozen? ⟨w0.heap.size + 1, 3, none⟩ = false ∧ w.frozen? ⟨w0.heap.size + 1, 4, none⟩ = false :=
  ⟨h.frozen _ 1 0 rfl rfl, h.frozen _ 1 1 rfl rfl, h.frozen _ 1 2 rfl rfl, h.frozen _ 1 3 rfl rfl, h.frozen _ 1 4 rfl rfl⟩
theorem Vars.c51 {w0 w : World} {l : List (Array Value)} {cs : Array Value} {v0 v1 v2 v3 v4 : Value} (h : Vars w0 w (cs :: #[v0, v1, v2, v3, v4] :: l)) : w.cell? ⟨w0.heap.size + 1, 0, none⟩ = some v0 ∧ w.cell? ⟨w0.heap.size + 1, 1, none⟩ = some v1 ∧ w.cell? ⟨w0.heap.size + 1, 2, none⟩ = some v2 ∧ w.cell? ⟨w0.heap.size + 1, 3, none⟩ = some v3 ∧ w.cell? ⟨w0.heap.size + 1, 4, none⟩ = some v4 := h.c5 _ 1 rfl rfl
/-- A store ahead of what the call owns. -/
theorem OwnE.putO {α : Type} {n : Nat} {enc : α → List Value} {w : World} {B : Nat} {e : TypeId} {v : Value} {L : List α} (h : OwnE n enc w B e v L) {b : Nat} (hb : b < B) (i : Nat) (u : Value) : OwnE n enc (w.setCell ⟨b, i, none⟩ u) B e v L := by
  refine ⟨h.1, ?_⟩
  rcases h.2 with hn | ⟨g, cap, cur, rfl, hB, hg, rest⟩
  · exact .inl hn
  · exact .inr ⟨g, cap, cur, rfl, hB, (Below.heap_setCell _ _ _ _ (by simp; omega)).trans hg, rest⟩
/-- A call gives a feature whose points lie in new memory. -/
def GivesFt (a k r : Int) (s : ByteArray) (ps : List (Int × Int)) (w : World) (e : Ending) (w' : World) : Prop :=
  ∃ A L c, Hid (L = ps) ∧ e = .returned (FtV a k r s A L.length c) ∧ OwnE 2 encPoint w' w.heap.size 33 (.slice A L.length c) L ∧ Below w.heap.size w w'
/-- A call gives features of its own. -/
def GivesF (l : List Feat) (w : World) (e : Ending) (w' : World) : Prop :=
  ∃ A L c, Hid (L = l) ∧ e = .returned (.slice A L.length c) ∧ OwnF w' w.heap.size (.slice A L.length c) L ∧ Below w.heap.size w w'
/-- All features' points are few. -/
def FewP (l : List Feat) : Prop := ∀ (j : Nat) (f : Feat), l[j]? = some f → f.2.2.2.2.length ≤ 274877906944
/-- Small enough for a walk: names and points. -/
def SmallF (l : List Feat) : Prop := ∀ (j : Nat) (f : Feat), l[j]? = some f → f.2.2.2.2.length ≤ 274877906944 ∧ f.2.2.2.1.size ≤ maxLen
section
variable {l : List Feat}
theorem SmallF.few (h : SmallF l) : FewP l := fun j f hf => (h j f hf).1
theorem SmallF.take (h : SmallF l) (j : Nat) : SmallF (l.take j) := fun i f hf => by
  rw [List.getElem?_take] at hf
  split at hf
  · exact h i f hf
  · cases hf
theorem SmallF.drop (h : SmallF l) (j : Nat) : SmallF (l.drop j) := fun i f hf => by
  rw [List.getElem?_drop] at hf
  exact h _ f hf
end
end Go.Proofs.YtbnjaaegbmhopaaDoor
