/- One variable of the call's own, wherever it was made. -/
import Derived.Test.YtbnjaaegbmhopaaGreatDoorSeg
import Derived.Test.YtbnjaaegbmhopaaGreatDoorVars2
namespace Go.Proofs.YtbnjaaegbmhopaaGreatDoor
open Go.ChangeShapes Go.WideShapes Go.ChangeAt Go.RowKit
set_option linter.unusedVariables false

/-- The block b, not below m, holds the cells cs. -/
def OneV (m : Nat) (w : World) (b : Nat) (cs : Array Value) : Prop := m ≤ b ∧ ∃ T, w.heap[b]? = some (.cells cs T (0, 0))
section
variable {w w' : World} {m b : Nat} {cs : Array Value} {v v0 v1 v2 v3 : Value}
theorem OneV.lt (h : OneV m w b cs) : b < w.heap.size := by obtain ⟨_, T, h⟩ := h; exact (Array.getElem?_eq_some_iff.1 h).1
theorem OneV.new (w : World) (hz : m ≤ w.heap.size) (cs : Array Value) (T : TypeId) : OneV m (w.alloc (.cells cs T)) w.heap.size cs := ⟨hz, T, heap_alloc_new w _⟩
theorem OneV.next (h : OneV m w b cs) (hb : Below w.heap.size w w') : OneV m w' b cs := by
  have hl := h.lt
  obtain ⟨h1, T, h2⟩ := h
  exact ⟨h1, T, (hb.block b hl).trans h2⟩
theorem OneV.drew (h : OneV m w b cs) : OneV m w.drew b cs := h
theorem OneV.al (h : OneV m w b cs) (o : Obj) : OneV m (w.alloc o) b cs := h.next ((Below.refl _ _).alloc (Nat.le_refl _) o)
theorem OneV.cell (h : OneV m w b cs) (i : Nat) (hi : cs[i]? = some v) : w.cell? ⟨b, i, none⟩ = some v := by
  obtain ⟨_, T, h3⟩ := h
  rw [World.cell?, h3]; simpa using hi
theorem OneV.frozen (h : OneV m w b cs) (i : Nat) : w.frozen? ⟨b, i, none⟩ = false := by
  obtain ⟨_, T, h3⟩ := h
  rw [World.frozen?, h3]; rfl
theorem OneV.set (h : OneV m w b cs) (i : Nat) (v : Value) : OneV m (w.setCell ⟨b, i, none⟩ v) b (cs.setIfInBounds i v) := by
  obtain ⟨h1, T, h3⟩ := h
  exact ⟨h1, T, heap_setCell_same w _ i cs T v h3⟩
theorem OneV.other (h : OneV m w b cs) {c : Nat} (hn : ¬ b = c) (i : Nat) (v : Value) : OneV m (w.setCell ⟨c, i, none⟩ v) b cs := by
  obtain ⟨h1, T, h3⟩ := h
  exact ⟨h1, T, (Below.heap_setCell _ _ _ _ (by simpa using hn)).trans h3⟩
theorem OneV.c4 (h : OneV m w b #[v0, v1, v2, v3]) : w.cell? ⟨b, 0, none⟩ = some v0 ∧ w.cell? ⟨b, 1, none⟩ = some v1 ∧ w.cell? ⟨b, 2, none⟩ = some v2 ∧ w.cell? ⟨b, 3, none⟩ = some v3 := ⟨h.cell 0 rfl, h.cell 1 rfl, h.cell 2 rfl, h.cell 3 rfl⟩
theorem OneV.f4 (h : OneV m w b cs) : w.frozen? ⟨b, 0, none⟩ = false ∧ w.frozen? ⟨b, 1, none⟩ = false ∧ w.frozen? ⟨b, 2, none⟩ = false ∧ w.frozen? ⟨b, 3, none⟩ = false := ⟨h.frozen 0, h.frozen 1, h.frozen 2, h.frozen 3⟩
theorem OneV.set4 (h : OneV m w b #[v0, v1, v2, v3]) (u0 u1 u2 u3 : Value) : OneV m ((((w.setCell ⟨b, 0, none⟩ u0).setCell ⟨b, 1, none⟩ u1).setCell ⟨b, 2, none⟩ u2).setCell ⟨b, 3, none⟩ u3) b #[u0, u1, u2, u3] :=
  (((h.set 0 u0).set 1 u1).set 2 u2).set 3 u3
theorem OneV.mono {m' : Nat} (h : OneV m' w b cs) (hm : m ≤ m') : OneV m w b cs := ⟨Nat.le_trans hm h.1, h.2⟩
theorem OneV.other4 (h : OneV m w b cs) {c : Nat} (hn : ¬ b = c) (u0 u1 u2 u3 : Value) : OneV m ((((w.setCell ⟨c, 0, none⟩ u0).setCell ⟨c, 1, none⟩ u1).setCell ⟨c, 2, none⟩ u2).setCell ⟨c, 3, none⟩ u3) b cs :=
  (((h.other hn 0 u0).other hn 1 u1).other hn 2 u2).other hn 3 u3
theorem OneV.apart {m' : Nat} {w2 : World} {c : Nat} {ds : Array Value} (h : OneV m w b cs) (hx : OneV m' w2 c ds) (hm : w.heap.size ≤ m') : ¬ b = c := by
  have := h.lt; have := hx.1; omega
/-- A store into it leaves the variables ahead of it as they are. -/
theorem Vars.putO {w0 : World} {cs cs' ds : Array Value} (h : Vars w0 w [cs, cs']) (hx : OneV (w0.heap.size + 2) w b ds) (u0 u1 u2 u3 : Value) : Vars w0 ((((w.setCell ⟨b, 0, none⟩ u0).setCell ⟨b, 1, none⟩ u1).setCell ⟨b, 2, none⟩ u2).setCell ⟨b, 3, none⟩ u3) [cs, cs'] :=
  (((h.put2 hx.1 0 u0).put2 hx.1 1 u1).put2 hx.1 2 u2).put2 hx.1 3 u3
end
end Go.Proofs.YtbnjaaegbmhopaaGreatDoor
