/- Arrays as variables: a whole row out of and into a block; the table of meetings. -/
import Derived.Test.YtbnjaaegbmhopaaGreatDoorMeetV
import Derived.Test.YtbnjaaegbmhopaaGreatDoorVars2
import Derived.Deep.WholeRow
namespace Go.Proofs.YtbnjaaegbmhopaaGreatDoor
open Go.ChangeShapes Go.WideShapes Go.ChangeAt Go.RowKit
set_option linter.unusedVariables false

section
variable {P : Program}
theorem storeCells_row (w : World) (g : Nat) (t ty : TypeId) (old cells : Array Value) (hg : w.heap[g]? = some (.cells old t (0, 0))) (hi : (P.info? ty).map (·.size) = some cells.size)
    (ho : old.size = cells.size) (h1 : cells.all (·.oneCell') = true) : (storeCells ⟨g, 0, none⟩ cells.toList 0).run P w = .ok () (w.setRow g cells) := by
  have := run_storeVar_row (P := P) w g t ty old cells hg hi ho h1
  cases hq : P.info? ty with
  | none => simp [hq] at hi
  | some i =>
    have hs : cells.size = i.size := by simp [hq] at hi; omega
    simpa [storeVar, sizeOf, typeInfo, hq, Value.cells, hs] using this
theorem loadCells_row (w : World) (g n : Nat) (t : TypeId) (cs : Array Value) (hg : w.heap[g]? = some (.cells cs t (0, 0))) (hn : cs.size = n) :
    (loadCellsFrom ⟨g, 0, none⟩ 0 n #[]).run P w = .ok cs w := by
  subst hn
  have := run_loadCells_list (P := P) w ⟨g, 0, none⟩ cs.toList (fun j v hv => by
    rw [add_none, Nat.zero_add, cell_of_row _ _ j cs t (0, 0) hg]
    simpa using hv)
  simpa [loadCells] using this
end
theorem setRow_block {w : World} {g : Nat} {t : TypeId} {old cells : Array Value} (hg : w.heap[g]? = some (.cells old t (0, 0))) : (w.setRow g cells).heap[g]? = some (.cells cells t (0, 0)) := by
  simp [World.setRow, Array.getElem?_modify, hg]
theorem setRow_other (w : World) {g k : Nat} (h : ¬ g = k) (cells : Array Value) : (w.setRow g cells).heap[k]? = w.heap[k]? := by
  simp [World.setRow, Array.getElem?_modify, h]
theorem Below.setRow {B g : Nat} {a w : World} (h : Below B a w) (hg : B ≤ g) (cells : Array Value) : Below B a (w.setRow g cells) :=
  ⟨h.os, h.tape, h.output, by rw [size_setRow]; exact h.size, fun k hk => by rw [setRow_other w (by omega)]; exact h.block k hk⟩
/-- A whole variable is written. -/
theorem Vars.setRowAt {w0 w : World} {l : List (Array Value)} {cs : Array Value} (h : Vars w0 w l) (b j : Nat) (hb : b = w0.heap.size + j) (hj : l[j]? = some cs) (cells : Array Value) : Vars w0 (w.setRow b cells) (l.set j cells) := by
  subst hb
  have hjl : j < l.length := (List.getElem?_eq_some_iff.1 hj).1
  refine ⟨Below.setRow h.1 (by omega) cells, Nat.le_trans (by simpa using h.2.1) (by rw [size_setRow]; exact Nat.le_refl _), fun k c hk => ?_⟩
  by_cases e : j = k
  · subst e
    rw [List.getElem?_set_self hjl] at hk
    simp only [Option.some.injEq] at hk
    subst hk
    obtain ⟨T, h3⟩ := h.2.2 j cs hj
    exact ⟨T, setRow_block h3⟩
  · rw [List.getElem?_set_ne e] at hk
    obtain ⟨T, h3⟩ := h.2.2 k c hk
    exact ⟨T, (setRow_other w (by omega) cells).trans h3⟩
/-- A row that the call owns, when a cell ahead of it is written. -/
theorem OwnE.setLow {α : Type} {n : Nat} {enc : α → List Value} {w : World} {lo b i : Nat} {e : TypeId} {v : Value} {L : List α} (h : OwnE n enc w lo e v L) (hb : b < lo) (u : Value) : OwnE n enc (w.setCell ⟨b, i, none⟩ u) lo e v L := by
  refine ⟨h.1, ?_⟩
  rcases h.2 with hn | ⟨g, cap, cur, rfl, hB, hg, rest⟩
  · exact .inl hn
  · exact .inr ⟨g, cap, cur, rfl, hB, (Below.heap_setCell _ _ _ _ (by simp; omega)).trans hg, rest⟩
/-- The table of parts: the first J are laid. -/
def PartsAt (l : List Feat) (w : World) (lo J : Nat) (cs : Array Value) : Prop := cs.size = 16 ∧ ∀ (j : Nat) f, j < J → l[j]? = some f →
  ∃ A c L, L = partsV f ∧ cs[j]? = some (.slice A L.length c) ∧ OwnE 4 encSegment w lo 78 (.slice A L.length c) L
section
variable {l : List Feat} {w w' : World} {lo J : Nat} {cs : Array Value}
theorem PartsAt.zero (h : cs.size = 16) : PartsAt l w lo 0 cs := ⟨h, fun j f hj => absurd hj (Nat.not_lt_zero _)⟩
theorem PartsAt.all (h : PartsAt l w lo J cs) (hb : Below w.heap.size w w') : PartsAt l w' lo J cs := ⟨h.1, fun j f hj hf => by
  obtain ⟨A, c, L, h1, h2, h3⟩ := h.2 j f hj hf
  exact ⟨A, c, L, h1, h2, h3.belowAll hb⟩⟩
theorem PartsAt.low (h : PartsAt l w lo J cs) {b i : Nat} (hb : b < lo) (u : Value) : PartsAt l (w.setCell ⟨b, i, none⟩ u) lo J cs := ⟨h.1, fun j f hj hf => by
  obtain ⟨A, c, L, h1, h2, h3⟩ := h.2 j f hj hf
  exact ⟨A, c, L, h1, h2, h3.setLow hb u⟩⟩
theorem PartsAt.put (h : PartsAt l w lo J cs) (hJ : J < 16) {A : Option Addr} {c : Nat} {L : List Sg} (ho : OwnE 4 encSegment w lo 78 (.slice A L.length c) L) (hL : ∀ f, l[J]? = some f → L = partsV f) : PartsAt l w lo (J + 1) (cs.setIfInBounds J (.slice A L.length c)) := by
  refine ⟨by simpa using h.1, fun j f hj hf => ?_⟩
  by_cases e : j = J
  · subst e
    exact ⟨A, c, L, hL f hf, by rw [Array.getElem?_setIfInBounds_self_of_lt (by rw [h.1]; exact hJ)], ho⟩
  · obtain ⟨A', c', L', h1, h2, h3⟩ := h.2 j f (by omega) hf
    exact ⟨A', c', L', h1, by rw [Array.getElem?_setIfInBounds_ne (Ne.symm e)]; exact h2, h3⟩
theorem PartsAt.has (h : PartsAt l w lo J cs) {j : Nat} (hj : j < 16) : ∃ u, cs[j]? = some u := ⟨_, Array.getElem?_eq_getElem (by rw [h.1]; exact hj)⟩
end
/-- The table of meetings: all pairs with the second one ahead of J, and those with J itself whose first one is ahead of K. -/
def MatAt (l : List Feat) (J K : Nat) (cs : Array Value) : Prop := cs.size = 256 ∧ (∀ i : Nat, i < 256 → ∃ x : Int, cs[i]? = some (.int .i64 x)) ∧
  ∀ (i j : Nat) f g, i < j → (j < J ∨ (j = J ∧ i < K)) → l[i]? = some f → l[j]? = some g → cs[i * 16 + j]? = some (.int .i64 (meetF f g))
section
variable {l : List Feat} {J K : Nat} {cs : Array Value}
theorem MatAt.zero (h : cs.size = 256) (h0 : ∀ i : Nat, i < 256 → ∃ x : Int, cs[i]? = some (.int .i64 x)) : MatAt l 0 0 cs := ⟨h, h0, fun i j f g hij hj => by omega⟩
theorem MatAt.next (h : MatAt l J J cs) : MatAt l (J + 1) 0 cs := ⟨h.1, h.2.1, fun i j f g hij hj => h.2.2 i j f g hij (by omega)⟩
theorem MatAt.put (hl : l.length ≤ 16) (h : MatAt l J K cs) (hJ : J < l.length) (hK : K < J) {v : Int} (hv : ∀ f g, l[K]? = some f → l[J]? = some g → v = meetF f g) : MatAt l J (K + 1) (cs.setIfInBounds (K * 16 + J) (.int .i64 v)) := by
  have hin : K * 16 + J < cs.size := by rw [h.1]; omega
  refine ⟨by simpa using h.1, fun i hi => ?_, fun i j f g hij hj hf hg => ?_⟩
  · by_cases e : K * 16 + J = i
    · subst e; exact ⟨v, Array.getElem?_setIfInBounds_self_of_lt hin⟩
    · rw [Array.getElem?_setIfInBounds_ne e]; exact h.2.1 i hi
  · have h16 : j < 16 := by have := (List.getElem?_eq_some_iff.1 hg).1; omega
    by_cases e : K * 16 + J = i * 16 + j
    · obtain rfl : K = i := by omega
      obtain rfl : J = j := by omega
      rw [Array.getElem?_setIfInBounds_self_of_lt hin, hv f g hf hg]
    · rw [Array.getElem?_setIfInBounds_ne e]
      refine h.2.2 i j f g hij ?_ hf hg
      rcases hj with hj | ⟨hj, hk⟩
      · exact .inl hj
      · subst hj
        exact .inr ⟨rfl, by omega⟩
theorem MatAt.one (h : MatAt l J K cs) : cs.all (·.oneCell') = true := by
  rw [Array.all_eq_true]
  intro i hi
  obtain ⟨x, hx⟩ := h.2.1 i (by rw [h.1] at hi; exact hi)
  rw [Array.getElem?_eq_getElem hi] at hx
  rw [Option.some.inj hx]; rfl
end
end Go.Proofs.YtbnjaaegbmhopaaGreatDoor
