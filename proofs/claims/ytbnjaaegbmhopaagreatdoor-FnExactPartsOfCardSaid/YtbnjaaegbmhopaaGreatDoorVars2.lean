/- Variables of the call's own: a cell of any of them is written. -/
import Derived.Test.YtbnjaaegbmhopaaGreatDoorVars
namespace Go.Proofs.YtbnjaaegbmhopaaGreatDoor
open Go.RowKit
set_option linter.unusedVariables false
theorem Vars.setAt {w0 w : World} {l : List (Array Value)} {cs : Array Value} (h : Vars w0 w l) (b j i : Nat) (hb : b = w0.heap.size + j) (hj : l[j]? = some cs) (v : Value) :
    Vars w0 (w.setCell ⟨b, i, none⟩ v) (l.set j (cs.setIfInBounds i v)) := by
  subst hb
  have hjl : j < l.length := (List.getElem?_eq_some_iff.1 hj).1
  refine ⟨h.1.setCell (by simp) v, Nat.le_trans (by simpa using h.2.1) (by simp [World.setCell]), fun k c hk => ?_⟩
  by_cases e : j = k
  · subst e
    rw [List.getElem?_set_self hjl] at hk
    simp only [Option.some.injEq] at hk
    subst hk
    obtain ⟨T, h3⟩ := h.2.2 j cs hj
    exact ⟨T, heap_setCell_same w _ i cs T v h3⟩
  · rw [List.getElem?_set_ne e] at hk
    obtain ⟨T, h3⟩ := h.2.2 k c hk
    exact ⟨T, (Below.heap_setCell _ _ _ _ (by simp; omega)).trans h3⟩
/-- Two cells in a row of one of them. -/
theorem Vars.set2At {w0 w : World} {l : List (Array Value)} {cs : Array Value} (h : Vars w0 w l) (b j i : Nat) (hb : b = w0.heap.size + j) (hj : l[j]? = some cs) (u v : Value) :
    Vars w0 ((w.setCell ⟨b, i, none⟩ u).setCell ⟨b, i + 1, none⟩ v) (l.set j ((cs.setIfInBounds i u).setIfInBounds (i + 1) v)) := by
  have h1 := h.setAt b j i hb hj u
  have h2 := h1.setAt b j (i + 1) hb (List.getElem?_set_self (List.getElem?_eq_some_iff.1 hj).1) v
  rwa [List.set_set] at h2
end Go.Proofs.YtbnjaaegbmhopaaGreatDoor
