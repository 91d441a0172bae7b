/- Variables of the call's own: blocks behind the world at its start, each with its cells. -/
import Derived.Test.YtbnjaaegbmhopaaGreatDoorMem
namespace Go.Proofs.YtbnjaaegbmhopaaGreatDoor
open Go.RowKit
set_option linter.unusedVariables false

/-- Variables of the call's own: the j-th, with the cells l[j], is the j-th block behind w0's. -/
def Vars (w0 w : World) (l : List (Array Value)) : Prop :=
  Below w0.heap.size w0 w ∧ w0.heap.size + l.length ≤ w.heap.size ∧
  ∀ (j : Nat) cs, l[j]? = some cs → ∃ T, w.heap[w0.heap.size + j]? = some (.cells cs T (0, 0))
section
variable {w0 w w' : World} {l : List (Array Value)} {cs cs' cs'' : Array Value} {v v0 v1 v2 v3 v4 v5 v6 v7 : Value} {i j b : Nat}
theorem Vars.next (h : Vars w0 w l) (hb : Below w.heap.size w w') : Vars w0 w' l := by
  refine ⟨h.1.trans (hb.mono h.1.size), Nat.le_trans h.2.1 hb.size, fun j x hj => ?_⟩
  have hl : j < l.length := (List.getElem?_eq_some_iff.1 hj).1
  have h2 := h.2.1
  obtain ⟨T, h3⟩ := h.2.2 j x hj
  exact ⟨T, (hb.block _ (by omega)).trans h3⟩
theorem Vars.drew (h : Vars w0 w l) : Vars w0 w.drew l := h.next (Below.refl _ _).drew
theorem Vars.al (h : Vars w0 w l) (o : Obj) : Vars w0 (w.alloc o) l := h.next ((Below.refl _ _).alloc (Nat.le_refl _) o)
theorem Vars.nil (w0 : World) : Vars w0 w0 [] := ⟨Below.refl _ _, by simp, fun j x h => by simp at h⟩
theorem Vars.more (h : Vars w0 w l) (hz : w0.heap.size + l.length = w.heap.size) (T : TypeId) (cs : Array Value) : Vars w0 (w.alloc (.cells cs T)) (l ++ [cs]) := by
  have hn := h.al (.cells cs T)
  refine ⟨hn.1, by simp; omega, fun j u hj => ?_⟩
  by_cases hl : j < l.length
  · rw [List.getElem?_append_left hl] at hj
    exact hn.2.2 j u hj
  · have hj' : j = l.length := by
      have := (List.getElem?_eq_some_iff.1 hj).1
      simp at this; omega
    subst hj'
    simp at hj
    subst hj
    rw [hz]
    exact ⟨T, heap_alloc_new w _⟩
theorem Vars.of1 (w0 : World) (c0 : Array Value) (T : TypeId) : Vars w0 (w0.alloc (.cells c0 T)) [c0] := (Vars.nil w0).more (by simp) T c0
theorem Vars.of2 (w0 : World) (c0 c1 : Array Value) (T U : TypeId) : Vars w0 ((w0.alloc (.cells c0 T)).alloc (.cells c1 U)) [c0, c1] := (Vars.of1 w0 c0 T).more (by simp) U c1
theorem Vars.of3 (w0 : World) (c0 c1 c2 : Array Value) (T U S : TypeId) : Vars w0 (((w0.alloc (.cells c0 T)).alloc (.cells c1 U)).alloc (.cells c2 S)) [c0, c1, c2] := (Vars.of2 w0 c0 c1 T U).more (by simp) S c2
theorem Vars.of4 (w0 : World) (c0 c1 c2 c3 : Array Value) (T U S R : TypeId) : Vars w0 ((((w0.alloc (.cells c0 T)).alloc (.cells c1 U)).alloc (.cells c2 S)).alloc (.cells c3 R)) [c0, c1, c2, c3] := (Vars.of3 w0 c0 c1 c2 T U S).more (by simp) R c3
theorem Vars.cell (h : Vars w0 w l) (b j i : Nat) (hb : b = w0.heap.size + j) (hj : l[j]? = some cs) (hi : cs[i]? = some v) : w.cell? ⟨b, i, none⟩ = some v := by
  subst hb
  obtain ⟨T, h3⟩ := h.2.2 j cs hj
  rw [World.cell?, h3]
  simpa using hi
theorem Vars.frozen (h : Vars w0 w l) (b j i : Nat) (hb : b = w0.heap.size + j) (hj : l[j]? = some cs) : w.frozen? ⟨b, i, none⟩ = false := by
  subst hb
  obtain ⟨T, h3⟩ := h.2.2 j cs hj
  rw [World.frozen?, h3]; rfl
/-- A cell of the first one is written. -/
theorem Vars.set0 (h : Vars w0 w (cs :: l)) (i : Nat) (v : Value) : Vars w0 (w.setCell ⟨w0.heap.size, i, none⟩ v) (cs.setIfInBounds i v :: l) := by
  refine ⟨h.1.setCell (Nat.le_refl _) v, Nat.le_trans (by simpa using h.2.1) (by simp [World.setCell]), fun j c hj => ?_⟩
  match j, hj with
  | 0, hj =>
    simp at hj; subst hj
    obtain ⟨T, h3⟩ := h.2.2 0 cs rfl
    exact ⟨T, heap_setCell_same w _ i cs T v h3⟩
  | j + 1, hj =>
    obtain ⟨T, h3⟩ := h.2.2 (j + 1) c (by simpa using hj)
    exact ⟨T, (Below.heap_setCell _ _ _ _ (by simp)).trans h3⟩
/-- A block behind them is written. -/
theorem Vars.put (h : Vars w0 w l) {b : Nat} (hb : w0.heap.size + l.length ≤ b) (i : Nat) (v : Value) : Vars w0 (w.setCell ⟨b, i, none⟩ v) l := by
  refine ⟨h.1.setCell (by simp; omega) v, Nat.le_trans h.2.1 (by simp [World.setCell]), fun j c hj => ?_⟩
  have hl : j < l.length := (List.getElem?_eq_some_iff.1 hj).1
  obtain ⟨T, h3⟩ := h.2.2 j c hj
  exact ⟨T, (Below.heap_setCell _ _ _ _ (by simp; omega)).trans h3⟩
/-- The first two alone. -/
theorem Vars.first2 (h : Vars w0 w (cs :: cs' :: l)) : Vars w0 w [cs, cs'] := by
  refine ⟨h.1, by have := h.2.1; simp at this ⊢; omega, fun j c hj => ?_⟩
  match j, hj with
  | 0, hj => exact h.2.2 0 c (by simpa using hj)
  | 1, hj => exact h.2.2 1 c (by simpa using hj)
  | j + 2, hj => simp at hj
theorem Vars.put1 (h : Vars w0 w [cs]) {b : Nat} (hb : w0.heap.size + 1 ≤ b) (i : Nat) (v : Value) : Vars w0 (w.setCell ⟨b, i, none⟩ v) [cs] := h.put hb i v
theorem Vars.put2 (h : Vars w0 w [cs, cs']) {b : Nat} (hb : w0.heap.size + 2 ≤ b) (i : Nat) (v : Value) : Vars w0 (w.setCell ⟨b, i, none⟩ v) [cs, cs'] := h.put hb i v
theorem Vars.put3 (h : Vars w0 w [cs, cs', cs'']) {b : Nat} (hb : w0.heap.size + 3 ≤ b) (i : Nat) (v : Value) : Vars w0 (w.setCell ⟨b, i, none⟩ v) [cs, cs', cs''] := h.put hb i v
theorem Vars.more2 (h : Vars w0 w (cs :: cs' :: l)) : w0.heap.size + 2 ≤ w.heap.size := by have := h.2.1; simp at this; omega
theorem Vars.more3 (h : Vars w0 w (cs :: cs' :: cs'' :: l)) : w0.heap.size + 3 ≤ w.heap.size := by have := h.2.1; simp at this; omega
theorem Vars.more1 (h : Vars w0 w (cs :: l)) : w0.heap.size + 1 ≤ w.heap.size := by have := h.2.1; simp at this; omega
/-- The first one's, at its own address. -/
theorem Vars.frz0 (h : Vars w0 w (cs :: l)) (i : Nat) : w.frozen? ⟨w0.heap.size, i, none⟩ = false := h.frozen w0.heap.size 0 i rfl rfl
theorem Vars.cel0 (h : Vars w0 w (cs :: l)) (i : Nat) (hi : cs[i]? = some v) : w.cell? ⟨w0.heap.size, i, none⟩ = some v := h.cell w0.heap.size 0 i rfl rfl hi
theorem Vars.c1 (h : Vars w0 w l) (b j : Nat) (hb : b = w0.heap.size + j) (hj : l[j]? = some #[v0]) : w.cell? ⟨b, 0, none⟩ = some v0 := h.cell b j 0 hb hj rfl
theorem Vars.c2 (h : Vars w0 w l) (b j : Nat) (hb : b = w0.heap.size + j) (hj : l[j]? = some #[v0, v1]) : w.cell? ⟨b, 0, none⟩ = some v0 ∧ w.cell? ⟨b, 1, none⟩ = some v1 := ⟨h.cell b j 0 hb hj rfl, h.cell b j 1 hb hj rfl⟩
theorem Vars.c4 (h : Vars w0 w l) (b j : Nat) (hb : b = w0.heap.size + j) (hj : l[j]? = some #[v0, v1, v2, v3]) : w.cell? ⟨b, 0, none⟩ = some v0 ∧ w.cell? ⟨b, 1, none⟩ = some v1 ∧ w.cell? ⟨b, 2, none⟩ = some v2 ∧ w.cell? ⟨b, 3, none⟩ = some v3 :=
  ⟨h.cell b j 0 hb hj rfl, h.cell b j 1 hb hj rfl, h.cell b j 2 hb hj rfl, h.cell b j 3 hb hj rfl⟩
theorem Vars.c10 (h : Vars w0 w (#[v0] :: l)) : w.cell? ⟨w0.heap.size, 0, none⟩ = some v0 := h.c1 _ 0 rfl rfl
theorem Vars.c20 (h : Vars w0 w (#[v0, v1] :: l)) : w.cell? ⟨w0.heap.size, 0, none⟩ = some v0 ∧ w.cell? ⟨w0.heap.size, 1, none⟩ = some v1 := h.c2 _ 0 rfl rfl
theorem Vars.c21 (h : Vars w0 w (cs :: #[v0, v1] :: l)) : w.cell? ⟨w0.heap.size + 1, 0, none⟩ = some v0 ∧ w.cell? ⟨w0.heap.size + 1, 1, none⟩ = some v1 := h.c2 _ 1 rfl rfl
theorem Vars.c40 (h : Vars w0 w (#[v0, v1, v2, v3] :: l)) : w.cell? ⟨w0.heap.size, 0, none⟩ = some v0 ∧ w.cell? ⟨w0.heap.size, 1, none⟩ = some v1 ∧ w.cell? ⟨w0.heap.size, 2, none⟩ = some v2 ∧ w.cell? ⟨w0.heap.size, 3, none⟩ = some v3 := h.c4 _ 0 rfl rfl
theorem Vars.c41 (h : Vars w0 w (cs :: #[v0, v1, v2, v3] :: l)) : w.cell? ⟨w0.heap.size + 1, 0, none⟩ = some v0 ∧ w.cell? ⟨w0.heap.size + 1, 1, none⟩ = some v1 ∧ w.cell? ⟨w0.heap.size + 1, 2, none⟩ = some v2 ∧ w.cell? ⟨w0.heap.size + 1, 3, none⟩ = some v3 := h.c4 _ 1 rfl rfl
theorem Vars.c42 (h : Vars w0 w (cs :: cs' :: #[v0, v1, v2, v3] :: l)) : w.cell? ⟨w0.heap.size + 1 + 1, 0, none⟩ = some v0 ∧ w.cell? ⟨w0.heap.size + 1 + 1, 1, none⟩ = some v1 ∧ w.cell? ⟨w0.heap.size + 1 + 1, 2, none⟩ = some v2 ∧ w.cell? ⟨w0.heap.size + 1 + 1, 3, none⟩ = some v3 := h.c4 _ 2 rfl rfl
/-- Two segments (or boxes), a segment and a point. -/
theorem Vars.c44 (h : Vars w0 w (#[v0, v1, v2, v3] :: #[v4, v5, v6, v7] :: l)) : w.cell? ⟨w0.heap.size, 0, none⟩ = some v0 ∧ w.cell? ⟨w0.heap.size, 1, none⟩ = some v1 ∧ w.cell? ⟨w0.heap.size, 2, none⟩ = some v2 ∧ w.cell? ⟨w0.heap.size, 3, none⟩ = some v3 ∧
    w.cell? ⟨w0.heap.size + 1, 0, none⟩ = some v4 ∧ w.cell? ⟨w0.heap.size + 1, 1, none⟩ = some v5 ∧ w.cell? ⟨w0.heap.size + 1, 2, none⟩ = some v6 ∧ w.cell? ⟨w0.heap.size + 1, 3, none⟩ = some v7 :=
  ⟨h.c40.1, h.c40.2.1, h.c40.2.2.1, h.c40.2.2.2, h.c41.1, h.c41.2.1, h.c41.2.2.1, h.c41.2.2.2⟩
theorem Vars.c42p (h : Vars w0 w (#[v0, v1, v2, v3] :: #[v4, v5] :: l)) : w.cell? ⟨w0.heap.size, 0, none⟩ = some v0 ∧ w.cell? ⟨w0.heap.size, 1, none⟩ = some v1 ∧ w.cell? ⟨w0.heap.size, 2, none⟩ = some v2 ∧ w.cell? ⟨w0.heap.size, 3, none⟩ = some v3 ∧
    w.cell? ⟨w0.heap.size + 1, 0, none⟩ = some v4 ∧ w.cell? ⟨w0.heap.size + 1, 1, none⟩ = some v5 :=
  ⟨h.c40.1, h.c40.2.1, h.c40.2.2.1, h.c40.2.2.2, h.c21.1, h.c21.2⟩
theorem Vars.fr81 (h : Vars w0 w (cs :: cs' :: l)) : w.frozen? ⟨w0.heap.size + 1, 0, none⟩ = false ∧ w.frozen? ⟨w0.heap.size + 1, 1, none⟩ = false ∧ w.frozen? ⟨w0.heap.size + 1, 2, none⟩ = false ∧ w.frozen? ⟨w0.heap.size + 1, 3, none⟩ = false ∧
    w.frozen? ⟨w0.heap.size + 1, 4, none⟩ = false ∧ w.frozen? ⟨w0.heap.size + 1, 5, none⟩ = false ∧ w.frozen? ⟨w0.heap.size + 1, 6, none⟩ = false ∧ w.frozen? ⟨w0.heap.size + 1, 7, none⟩ = false :=
  ⟨h.frozen _ 1 0 rfl rfl, h.frozen _ 1 1 rfl rfl, h.frozen _ 1 2 rfl rfl, h.frozen _ 1 3 rfl rfl, h.frozen _ 1 4 rfl rfl, h.frozen _ 1 5 rfl rfl, h.frozen _ 1 6 rfl rfl, h.frozen _ 1 7 rfl rfl⟩
theorem Vars.fr42 (h : Vars w0 w (cs :: cs' :: cs'' :: l)) : w.frozen? ⟨w0.heap.size + 1 + 1, 0, none⟩ = false ∧ w.frozen? ⟨w0.heap.size + 1 + 1, 1, none⟩ = false ∧ w.frozen? ⟨w0.heap.size + 1 + 1, 2, none⟩ = false ∧ w.frozen? ⟨w0.heap.size + 1 + 1, 3, none⟩ = false :=
  ⟨h.frozen _ 2 0 rfl rfl, h.frozen _ 2 1 rfl rfl, h.frozen _ 2 2 rfl rfl, h.frozen _ 2 3 rfl rfl⟩
theorem Vars.set80 (h : Vars w0 w l) {b : Nat} (hb : w0.heap.size ≤ b) (v0 v1 v2 v3 v4 v5 v6 v7 : Value) :
    Below w0.heap.size w0 ((((((((w.setCell ⟨b, 0, none⟩ v0).setCell ⟨b, 1, none⟩ v1).setCell ⟨b, 2, none⟩ v2).setCell ⟨b, 3, none⟩ v3).setCell ⟨b, 4, none⟩ v4).setCell ⟨b, 5, none⟩ v5).setCell ⟨b, 6, none⟩ v6).setCell ⟨b, 7, none⟩ v7) :=
  (((((((h.1.setCell hb _).setCell hb _).setCell hb _).setCell hb _).setCell hb _).setCell hb _).setCell hb _).setCell hb _
theorem Vars.set40 (h : Vars w0 w l) {b : Nat} (hb : w0.heap.size ≤ b) (v0 v1 v2 v3 : Value) :
    Below w0.heap.size w0 ((((w.setCell ⟨b, 0, none⟩ v0).setCell ⟨b, 1, none⟩ v1).setCell ⟨b, 2, none⟩ v2).setCell ⟨b, 3, none⟩ v3) :=
  (((h.1.setCell hb _).setCell hb _).setCell hb _).setCell hb _
theorem Vars.set20 (h : Vars w0 w l) {b : Nat} (hb : w0.heap.size ≤ b) (v0 v1 : Value) : Below w0.heap.size w0 ((w.setCell ⟨b, 0, none⟩ v0).setCell ⟨b, 1, none⟩ v1) :=
  (h.1.setCell hb _).setCell hb _
theorem Vars.c8 (h : Vars w0 w l) (b j : Nat) (hb : b = w0.heap.size + j) (hj : l[j]? = some #[v0, v1, v2, v3, v4, v5, v6, v7]) :
    w.cell? ⟨b, 0, none⟩ = some v0 ∧ w.cell? ⟨b, 1, none⟩ = some v1 ∧ w.cell? ⟨b, 2, none⟩ = some v2 ∧ w.cell? ⟨b, 3, none⟩ = some v3 ∧ w.cell? ⟨b, 4, none⟩ = some v4 ∧ w.cell? ⟨b, 5, none⟩ = some v5 ∧ w.cell? ⟨b, 6, none⟩ = some v6 ∧ w.cell? ⟨b, 7, none⟩ = some v7 :=
  ⟨h.cell b j 0 hb hj rfl, h.cell b j 1 hb hj rfl, h.cell b j 2 hb hj rfl, h.cell b j 3 hb hj rfl, h.cell b j 4 hb hj rfl, h.cell b j 5 hb hj rfl, h.cell b j 6 hb hj rfl, h.cell b j 7 hb hj rfl⟩
end
end Go.Proofs.YtbnjaaegbmhopaaGreatDoor
