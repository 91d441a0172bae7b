/- Variables of the call's own beside a cursor: each with its block, wherever it was made. -/
import Derived.Test.YtbnjaaegbmhopaaGreatDoorDrawPt
import Derived.Test.YtbnjaaegbmhopaaGreatDoorVars2
namespace Go.Proofs.YtbnjaaegbmhopaaGreatDoor
open Go.ChangeShapes Go.WideShapes Go.ChangeAt Go.RowKit
set_option linter.unusedVariables false

/-- A cursor p, and variables of the call's own: the j-th in the block (L[j]).1 with the cells (L[j]).2. -/
def Pad (p : Nat) (w0 w : World) (L : List (Nat × Array Value)) : Prop :=
  p < w0.heap.size ∧ Cur w p ∧ w0.grownBy w (some p) ∧ (∀ (j : Nat) b cs, L[j]? = some (b, cs) → w0.heap.size ≤ b ∧ b ≠ p ∧ ∃ T, w.heap[b]? = some (.cells cs T (0, 0))) ∧
  ∀ (j k : Nat) b cs ds, L[j]? = some (b, cs) → L[k]? = some (b, ds) → j = k
section
variable {p : Nat} {w0 w w' : World} {L : List (Nat × Array Value)} {cs ds : Array Value} {b c i j k : Nat} {u v v0 v1 v2 v3 : Value}
theorem Pad.lt (h : Pad p w0 w L) (hj : L[j]? = some (b, cs)) : b < w.heap.size := by
  obtain ⟨_, _, T, h3⟩ := h.2.2.2.1 j b cs hj
  exact (Array.getElem?_eq_some_iff.1 h3).1
theorem Pad.start (h : Cur w p) : Pad p w w [] := ⟨cur_lt h, h, grown_refl _ _, fun j b cs h => by simp at h, fun j k b cs ds h => by simp at h⟩
theorem Pad.next (h : Pad p w0 w L) (hc : Cur w' p) (hg : w.grownBy w' (some p)) : Pad p w0 w' L := by
  refine ⟨h.1, hc, grown_trans h.2.2.1 hg, fun j b cs hj => ?_, h.2.2.2.2⟩
  have hl := h.lt hj
  obtain ⟨h1, hp, T, h3⟩ := h.2.2.2.1 j b cs hj
  exact ⟨h1, hp, T, (hg.block b hl (by simpa using hp)).trans h3⟩
theorem Pad.al (h : Pad p w0 w L) (o : Obj) : Pad p w0 (w.alloc o) L := h.next (cur_alloc h.2.1 o) (grown_alloc (grown_refl _ _) o)
theorem cur_drew (h : Cur w p) : Cur w.drew p := by obtain ⟨a, len, cap, i, h, hp, hi, hs⟩ := h; exact ⟨a, len, cap, i, h, hp, hi, hs⟩
theorem Pad.nextB (h : Pad p w0 w L) (hb : Below w.heap.size w w') : Pad p w0 w' L := h.next (cur_below h.2.1 hb (cur_lt h.2.1)) ⟨hb.os, hb.tape, hb.output, hb.size, fun k hk _ => hb.block k hk⟩
theorem Pad.drew (h : Pad p w0 w L) : Pad p w0 w.drew L := h.next (cur_drew h.2.1) ⟨rfl, rfl, rfl, Nat.le_refl _, fun _ _ _ => rfl⟩
theorem Pad.more (h : Pad p w0 w L) (T : TypeId) (cs : Array Value) : Pad p w0 (w.alloc (.cells cs T)) (L ++ [(w.heap.size, cs)]) := by
  have hn := h.al (.cells cs T)
  have key : ∀ (j : Nat) b ds, (L ++ [(w.heap.size, cs)])[j]? = some (b, ds) → (L[j]? = some (b, ds) ∧ b < w.heap.size) ∨ (j = L.length ∧ b = w.heap.size ∧ ds = cs) := fun j b ds hj => by
    by_cases hl : j < L.length
    · rw [List.getElem?_append_left hl] at hj
      exact .inl ⟨hj, h.lt hj⟩
    · have hj' : j = L.length := by
        have := (List.getElem?_eq_some_iff.1 hj).1
        simp at this; omega
      subst hj'
      simp at hj
      exact .inr ⟨rfl, hj.1.symm, hj.2.symm⟩
  refine ⟨hn.1, hn.2.1, hn.2.2.1, fun j b ds hj => ?_, fun j k b ds es hj hk => ?_⟩
  · rcases key j b ds hj with ⟨h1, _⟩ | ⟨rfl, rfl, rfl⟩
    · exact hn.2.2.2.1 j b ds h1
    · exact ⟨h.2.2.1.size, by have := cur_lt h.2.1; omega, T, heap_alloc_new w _⟩
  · rcases key j b ds hj with ⟨h1, h1'⟩ | ⟨rfl, rfl, rfl⟩ <;> rcases key k _ es hk with ⟨h2, h2'⟩ | ⟨rfl, h2, rfl⟩
    · exact h.2.2.2.2 j k b ds es h1 h2
    · omega
    · omega
    · rfl
theorem Pad.moreAt (h : Pad p w0 w L) (b : Nat) (hb : b = w.heap.size) (T : TypeId) (cs : Array Value) : Pad p w0 (w.alloc (.cells cs T)) (L ++ [(b, cs)]) := by subst hb; exact h.more T cs
theorem Pad.cell (h : Pad p w0 w L) (j i : Nat) (hj : L[j]? = some (b, cs)) (hi : cs[i]? = some v) : w.cell? ⟨b, i, none⟩ = some v := by
  obtain ⟨_, _, T, h3⟩ := h.2.2.2.1 j b cs hj
  rw [World.cell?, h3]
  simpa using hi
theorem Pad.frozen (h : Pad p w0 w L) (j i : Nat) (hj : L[j]? = some (b, cs)) : w.frozen? ⟨b, i, none⟩ = false := by
  obtain ⟨_, _, T, h3⟩ := h.2.2.2.1 j b cs hj
  rw [World.frozen?, h3]; rfl
theorem Pad.ne (h : Pad p w0 w L) (j k : Nat) (hj : L[j]? = some (b, cs)) (hk : L[k]? = some (c, ds)) (hn : j ≠ k) : ¬ b = c := fun e => by
  subst e; exact hn (h.2.2.2.2 j k b cs ds hj hk)
theorem Pad.set (h : Pad p w0 w L) (j i : Nat) (hj : L[j]? = some (b, cs)) (v : Value) : Pad p w0 (w.setCell ⟨b, i, none⟩ v) (L.set j (b, cs.setIfInBounds i v)) := by
  have hjl : j < L.length := (List.getElem?_eq_some_iff.1 hj).1
  obtain ⟨h1, hp, T, h3⟩ := h.2.2.2.1 j b cs hj
  have key : ∀ (k : Nat) c ds, (L.set j (b, cs.setIfInBounds i v))[k]? = some (c, ds) → ∃ es, L[k]? = some (c, es) ∧ ((k = j ∧ ds = cs.setIfInBounds i v ∧ c = b) ∨ (k ≠ j ∧ es = ds)) := fun k c ds hk => by
    by_cases e : j = k
    · subst e
      rw [List.getElem?_set_self hjl] at hk
      simp only [Option.some.injEq, Prod.mk.injEq] at hk
      exact ⟨cs, by rw [hj, hk.1], .inl ⟨rfl, hk.2.symm, hk.1.symm⟩⟩
    · rw [List.getElem?_set_ne e] at hk
      exact ⟨ds, hk, .inr ⟨fun e' => e e'.symm, rfl⟩⟩
  refine ⟨h.1, cur_set_other h.2.1 (by have := h.1; omega), grown_setNew h.2.2.1 h1 i v, fun k c ds hk => ?_, fun k l c ds es hk hl => ?_⟩
  · obtain ⟨es, hk', hx⟩ := key k c ds hk
    obtain ⟨g1, gp, U, g3⟩ := h.2.2.2.1 k c es hk'
    rcases hx with ⟨rfl, rfl, rfl⟩ | ⟨hne, rfl⟩
    · rw [hj] at hk'
      simp only [Option.some.injEq, Prod.mk.injEq, true_and] at hk'
      subst hk'
      exact ⟨g1, gp, U, heap_setCell_same w _ i cs U v g3⟩
    · have hcb : ¬ c = b := fun e => by subst e; exact hne (h.2.2.2.2 k j c es cs hk' hj)
      exact ⟨g1, gp, U, (Below.heap_setCell _ _ _ _ (by simpa using hcb)).trans g3⟩
  · obtain ⟨_, hk', _⟩ := key k c ds hk
    obtain ⟨_, hl', _⟩ := key l c es hl
    exact h.2.2.2.2 k l c _ _ hk' hl'
theorem Pad.set2 (h : Pad p w0 w L) (j i : Nat) (hj : L[j]? = some (b, cs)) (u v : Value) : Pad p w0 ((w.setCell ⟨b, i, none⟩ u).setCell ⟨b, i + 1, none⟩ v) (L.set j (b, (cs.setIfInBounds i u).setIfInBounds (i + 1) v)) := by
  have h1 := (h.set j i hj u).set j (i + 1) (List.getElem?_set_self (List.getElem?_eq_some_iff.1 hj).1) v
  rwa [List.set_set] at h1
theorem Pad.set4 (h : Pad p w0 w L) (j : Nat) (hj : L[j]? = some (b, cs)) (v0 v1 v2 v3 : Value) :
    Pad p w0 ((((w.setCell ⟨b, 0, none⟩ v0).setCell ⟨b, 1, none⟩ v1).setCell ⟨b, 2, none⟩ v2).setCell ⟨b, 3, none⟩ v3) (L.set j (b, (((cs.setIfInBounds 0 v0).setIfInBounds 1 v1).setIfInBounds 2 v2).setIfInBounds 3 v3)) := by
  have h1 := (h.set2 j 0 hj v0 v1).set2 j 2 (List.getElem?_set_self (List.getElem?_eq_some_iff.1 hj).1) v2 v3
  rwa [List.set_set] at h1
theorem Pad.out (h : Pad p w0 w L) : Cur w p ∧ w0.grownBy w (some p) := ⟨h.2.1, h.2.2.1⟩
theorem Pad.c2 (h : Pad p w0 w L) (j : Nat) (hj : L[j]? = some (b, #[v0, v1])) : w.cell? ⟨b, 0, none⟩ = some v0 ∧ w.cell? ⟨b, 1, none⟩ = some v1 := ⟨h.cell j 0 hj rfl, h.cell j 1 hj rfl⟩
theorem Pad.c4 (h : Pad p w0 w L) (j : Nat) (hj : L[j]? = some (b, #[v0, v1, v2, v3])) : w.cell? ⟨b, 0, none⟩ = some v0 ∧ w.cell? ⟨b, 1, none⟩ = some v1 ∧ w.cell? ⟨b, 2, none⟩ = some v2 ∧ w.cell? ⟨b, 3, none⟩ = some v3 :=
  ⟨h.cell j 0 hj rfl, h.cell j 1 hj rfl, h.cell j 2 hj rfl, h.cell j 3 hj rfl⟩
theorem Pad.f2 (h : Pad p w0 w L) (j : Nat) (hj : L[j]? = some (b, cs)) : w.frozen? ⟨b, 0, none⟩ = false ∧ w.frozen? ⟨b, 1, none⟩ = false := ⟨h.frozen j 0 hj, h.frozen j 1 hj⟩
theorem Pad.f4 (h : Pad p w0 w L) (j : Nat) (hj : L[j]? = some (b, cs)) : w.frozen? ⟨b, 0, none⟩ = false ∧ w.frozen? ⟨b, 1, none⟩ = false ∧ w.frozen? ⟨b, 2, none⟩ = false ∧ w.frozen? ⟨b, 3, none⟩ = false :=
  ⟨h.frozen j 0 hj, h.frozen j 1 hj, h.frozen j 2 hj, h.frozen j 3 hj⟩
/-- Without the first ones. -/
theorem Pad.from_ (h : Pad p w0 w L) (n : Nat) : Pad p w0 w (L.drop n) := by
  refine ⟨h.1, h.2.1, h.2.2.1, fun j b cs hj => ?_, fun j k b cs ds hj hk => ?_⟩
  · rw [List.getElem?_drop] at hj; exact h.2.2.2.1 _ b cs hj
  · rw [List.getElem?_drop] at hj hk
    have := h.2.2.2.2 _ _ b cs ds hj hk; omega
/-- Variables of the call's own behind a call that writes a later cursor alone. -/
theorem Vars.nextG {l : List (Array Value)} (h : Vars w0 w l) (hg : w.grownBy w' (some p)) (hp : w0.heap.size + l.length ≤ p) : Vars w0 w' l := by
  refine ⟨below_grown h.1 hg h.1.size (by omega), Nat.le_trans h.2.1 hg.size, fun j x hj => ?_⟩
  have hl : j < l.length := (List.getElem?_eq_some_iff.1 hj).1
  have h2 := h.2.1
  obtain ⟨T, h3⟩ := h.2.2 j x hj
  exact ⟨T, (hg.block _ (by omega) (by simp; omega)).trans h3⟩
end
end Go.Proofs.YtbnjaaegbmhopaaGreatDoor
