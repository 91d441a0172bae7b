/- The model's draws of points: what they give is two 64-bit integers; nothing that existed before the draw is written. -/
import Derived.Test.YtbnjaaegbmhopaaGreatDoorPoint2
import Derived.Test.YtbnjaaegbmhopaaGreatDoorDrawInt
namespace Go.Proofs.YtbnjaaegbmhopaaGreatDoor
open Go.ChangeShapes Go.WideShapes Go.ChangeAt Go.RowKit
set_option linter.unusedVariables false

/-- A cursor p, and points of the call's own: the j-th in the j-th block behind w0's. -/
def Pen (p : Nat) (w0 w : World) (l : List (Int × Int)) : Prop :=
  p < w0.heap.size ∧ Cur w p ∧ w0.grownBy w (some p) ∧ w0.heap.size + l.length ≤ w.heap.size ∧
  ∀ (j : Nat) x y, l[j]? = some (x, y) → ∃ T, w.heap[w0.heap.size + j]? = some (.cells #[.int .i64 x, .int .i64 y] T (0, 0))
theorem cur_set_other {w : World} {p b j : Nat} {v : Value} (h : Cur w p) (hb : p < b) : Cur (w.setCell ⟨b, j, none⟩ v) p := by
  have hg := grown_set (grown_refl w (some b)) j v
  obtain ⟨a, len, cap, i, h, hp, hi, hlen, hs⟩ := h
  have hlt := (Array.getElem?_eq_some_iff.1 hp).1
  refine ⟨a, len, cap, i, h, (hg.block p hlt (by simp; omega)).trans hp, hi, hlen, fun k hk => ?_⟩
  obtain ⟨c, off, e, hc, n, hn, hcell⟩ := hs k hk
  exact ⟨c, off, e, hc, n, hn, hg.cell hcell (by simp; omega)⟩
theorem grown_setNew {w0 w : World} {r : Option Nat} {b : Nat} (h : w0.grownBy w r) (hb : w0.heap.size ≤ b) (j : Nat) (v : Value) : w0.grownBy (w.setCell ⟨b, j, none⟩ v) r :=
  ⟨h.os, h.tape, h.output, Nat.le_trans h.size (by simp [World.setCell]), fun k hk hne => (Below.heap_setCell _ _ _ _ (fun e => by simp at e; omega)).trans (h.block k hk hne)⟩
section
variable {p : Nat} {w0 w w' : World} {l : List (Int × Int)} {a b c d x y u : Int}
theorem Pen.start (h : Cur w p) : Pen p w w [] := ⟨cur_lt h, h, grown_refl _ _, by simp, fun j x y h => by simp at h⟩
theorem Pen.next (h : Pen p w0 w l) (hc : Cur w' p) (hg : w.grownBy w' (some p)) : Pen p w0 w' l := by
  refine ⟨h.1, hc, grown_trans h.2.2.1 hg, Nat.le_trans h.2.2.2.1 hg.size, fun j x y hj => ?_⟩
  have hl : j < l.length := (List.getElem?_eq_some_iff.1 hj).1
  have h2 := h.2.2.2.1
  have h1 := h.1
  obtain ⟨T, h3⟩ := h.2.2.2.2 j x y hj
  exact ⟨T, (hg.block _ (by omega) (by simp; omega)).trans h3⟩
theorem Pen.al (h : Pen p w0 w l) (o : Obj) : Pen p w0 (w.alloc o) l := h.next (cur_alloc h.2.1 o) (grown_alloc (grown_refl _ _) o)
theorem Pen.drew (h : Pen p w0 w l) : Pen p w0 w.drew l := h.next (by obtain ⟨a, len, cap, i, h, hp, hi, hs⟩ := h.2.1; exact ⟨a, len, cap, i, h, hp, hi, hs⟩) ⟨rfl, rfl, rfl, Nat.le_refl _, fun _ _ _ => rfl⟩
theorem Pen.more (h : Pen p w0 w l) (hz : w0.heap.size + l.length = w.heap.size) (T : TypeId) (x y : Int) : Pen p w0 (w.alloc (.cells #[.int .i64 x, .int .i64 y] T)) (l ++ [(x, y)]) := by
  have hn := h.al (.cells #[.int .i64 x, .int .i64 y] T)
  refine ⟨hn.1, hn.2.1, hn.2.2.1, by simp; omega, fun j u v hj => ?_⟩
  by_cases hl : j < l.length
  · rw [List.getElem?_append_left hl] at hj
    exact hn.2.2.2.2 j u v hj
  · have hj' : j = l.length := by
      have := (List.getElem?_eq_some_iff.1 hj).1
      simp at this; omega
    subst hj'
    simp at hj
    obtain ⟨rfl, rfl⟩ := hj
    rw [hz]
    exact ⟨T, heap_alloc_new w _⟩
theorem Pen.of1 (h : Cur w0 p) (T : TypeId) : Pen p w0 (w0.alloc (.cells #[.int .i64 a, .int .i64 b] T)) [(a, b)] := (Pen.start h).more (by simp) T a b
theorem Pen.of2 (h : Cur w0 p) (T : TypeId) : Pen p w0 ((w0.alloc (.cells #[.int .i64 a, .int .i64 b] T)).alloc (.cells #[.int .i64 c, .int .i64 d] T)) [(a, b), (c, d)] := (Pen.of1 h T).more (by simp) T c d
theorem Pen.of3 (h : Cur w0 p) (T : TypeId) : Pen p w0 (((w0.alloc (.cells #[.int .i64 a, .int .i64 b] T)).alloc (.cells #[.int .i64 c, .int .i64 d] T)).alloc (.cells #[.int .i64 x, .int .i64 y] T)) [(a, b), (c, d), (x, y)] := (Pen.of2 h T).more (by simp) T x y
theorem Pen.cell (h : Pen p w0 w l) {j : Nat} (hj : l[j]? = some (x, y)) : w.cell? ⟨w0.heap.size + j, 0, none⟩ = some (.int .i64 x) ∧ w.cell? ⟨w0.heap.size + j, 1, none⟩ = some (.int .i64 y) := by
  obtain ⟨T, h3⟩ := h.2.2.2.2 j x y hj
  constructor
  · rw [World.cell?, h3]; rfl
  · rw [World.cell?, h3]; rfl
theorem Pen.frozen (h : Pen p w0 w l) {j : Nat} (hj : l[j]? = some (x, y)) : w.frozen? ⟨w0.heap.size + j, 0, none⟩ = false ∧ w.frozen? ⟨w0.heap.size + j, 1, none⟩ = false := by
  obtain ⟨T, h3⟩ := h.2.2.2.2 j x y hj
  constructor
  · rw [World.frozen?, h3]; rfl
  · rw [World.frozen?, h3]; rfl
/-- Another block is written. -/
theorem Pen.other (h : Pen p w0 w l) {b : Nat} (hb : w0.heap.size + l.length ≤ b) (i : Nat) (v : Value) : Pen p w0 (w.setCell ⟨b, i, none⟩ v) l := by
  have h1 := h.1
  refine ⟨h.1, cur_set_other h.2.1 (by omega), grown_setNew h.2.2.1 (by omega) i v, Nat.le_trans h.2.2.2.1 (by simp [World.setCell]), fun j x y hj => ?_⟩
  have hl : j < l.length := (List.getElem?_eq_some_iff.1 hj).1
  obtain ⟨T, h3⟩ := h.2.2.2.2 j x y hj
  exact ⟨T, (Below.heap_setCell _ _ _ _ (fun e => by simp at e; omega)).trans h3⟩
/-- What a draw leaves behind a store into the call's own block. -/
theorem Pen.put (h : Cur w p ∧ w0.grownBy w (some p)) {b : Nat} (hp : p < b) (hb : w0.heap.size ≤ b) (i : Nat) (v : Value) : Cur (w.setCell ⟨b, i, none⟩ v) p ∧ w0.grownBy (w.setCell ⟨b, i, none⟩ v) (some p) :=
  ⟨cur_set_other h.1 hp, grown_setNew h.2 hb i v⟩
theorem Pen.put2 (h : Cur w p ∧ w0.grownBy w (some p)) {b : Nat} (hp : p < b) (hb : w0.heap.size ≤ b) (u v : Value) : Cur ((w.setCell ⟨b, 0, none⟩ u).setCell ⟨b, 1, none⟩ v) p ∧ w0.grownBy ((w.setCell ⟨b, 0, none⟩ u).setCell ⟨b, 1, none⟩ v) (some p) :=
  Pen.put (Pen.put h hp hb 0 u) hp hb 1 v
theorem Pen.out (h : Pen p w0 w l) : Cur w p ∧ w0.grownBy w (some p) := ⟨h.2.1, h.2.2.1⟩
end
/-- Boxes behind a call that writes a later cursor alone. -/
theorem Boxes.nextG {p : Nat} {w0 w w' : World} {l : List (Int × Int)} (h : Boxes w0 w l) (hg : w.grownBy w' (some p)) (hp : w0.heap.size + l.length ≤ p) : Boxes w0 w' l := by
  refine ⟨below_grown h.1 hg h.1.size (by omega), Nat.le_trans h.2.1 hg.size, fun j x y hj => ?_⟩
  have hl : j < l.length := (List.getElem?_eq_some_iff.1 hj).1
  have h2 := h.2.1
  obtain ⟨T, h3⟩ := h.2.2 j x y hj
  exact ⟨T, (hg.block _ (by omega) (by simp; omega)).trans h3⟩
/-- A point was drawn. -/
def DPt (p : Nat) (w : World) (lo hi : Int) (e : Ending) (w' : World) : Prop :=
  (∃ x y : Int, lo ≤ x ∧ x ≤ hi ∧ lo ≤ y ∧ y ≤ hi ∧ e = .returned (PtV x y)) ∧ Cur w' p ∧ w.grownBy w' (some p)
theorem l4Draw_any (p : Nat) (w : World) (hc : Cur w p) :
    Calls Tryz.prog 83 #[.pointer (some ⟨p, 0, none⟩)] w (DPt p w 0 11) := by
  have HP := Lib.hid (Pen.of1 (a := 0) (b := 0) hc 33)
  have hp := cur_lt hc
  go_enter Tryz.func83, Tryz.ntmps83
  clear hc
  go_wp2_with fail
  refine (below_any p 12 _ (by decide) (by decide) HP.out.2.1).mono ?_
  rintro e w1 ⟨⟨x, hx0, hx1, rfl⟩, hc1, hg1⟩
  have HP1 := Lib.hid (HP.out.next hc1 hg1)
  clear hc1 hg1 HP
  go_wp2_with fail
  refine (below_any p 12 _ (by decide) (by decide) HP1.out.2.1).mono ?_
  rintro e w2 ⟨⟨y, hy0, hy1, rfl⟩, hc2, hg2⟩
  have HP2 := Lib.hid (HP1.out.next hc2 hg2)
  clear hc2 hg2 HP1
  obtain ⟨k0, k1⟩ := HP2.out.cell (j := 0) rfl
  obtain ⟨f0, f1⟩ := HP2.out.frozen (j := 0) rfl
  simp only [Nat.add_zero] at k0 k1 f0 f1
  go_wp2
  refine bodyPost_ret (v := PtV x y) (by simp [results, Tryz.results83, go_sem, k0, k1]) rfl ?_
  have h := Pen.put (Pen.put HP2.out.out hp (Nat.le_refl _) 0 (.int .i64 x)) hp (Nat.le_refl _) 1 (.int .i64 y)
  exact ⟨⟨x, y, hx0, hx1, hy0, hy1, rfl⟩, h.1, h.2⟩
theorem l4Raw_any (p : Nat) (w : World) (hc : Cur w p) :
    Calls Tryz.prog 84 #[.pointer (some ⟨p, 0, none⟩)] w (DAny p w) := by
  go_enter Tryz.func84, Tryz.ntmps84
  go_wp2_with fail
  refine (ints_made p 8 8 _ [-1, 0, 200, 201, 1000, 1001, 9223372036854775807, -9223372036854775808] (-9223372036854775808) 9223372036854775807 w _ _ rfl (by decide) (by decide) rfl rfl (by decide) hc).mono ?_
  rintro e w2 ⟨⟨y, hy0, hy1, rfl⟩, hc2, hg2⟩
  go_wp2
  go_ret
  exact ⟨⟨_, hy0, hy1, rfl⟩, hc2, hg2⟩
/-- Any 64-bit point was drawn. -/
abbrev DPtAny (p : Nat) (w : World) := DPt p w (-9223372036854775808) 9223372036854775807
theorem l4Any_any (p : Nat) (w : World) (hc : Cur w p) :
    Calls Tryz.prog 50 #[.pointer (some ⟨p, 0, none⟩)] w (DPtAny p w) := by
  have HP := Lib.hid (Pen.of1 (a := 0) (b := 0) hc 33)
  have hp := cur_lt hc
  go_enter Tryz.func50, Tryz.ntmps50
  clear hc
  go_wp2_with fail
  refine (l4Draw_any p _ HP.out.2.1).mono ?_
  rintro e w1 ⟨⟨x, y, hx0, hx1, hy0, hy1, rfl⟩, hc1, hg1⟩
  have HP1 := Lib.hid ((HP.out.next hc1 hg1).al (.cells #[.int .i64 x, .int .i64 y] 33))
  have HQ1 := Lib.hid (Pen.of1 (a := x) (b := y) hc1 33)
  have hlt : w.heap.size + 1 ≤ w1.heap.size := (HP.out.next hc1 hg1).2.2.2.1
  clear hc1 hg1 HP
  go_wp2_with fail
  refine (below_any p 12 _ (by decide) (by decide) HP1.out.2.1).mono ?_
  rintro e w2 ⟨⟨n, hn0, hn1, rfl⟩, hc2, hg2⟩
  have HP2 := Lib.hid (HP1.out.next hc2 hg2)
  have HQ2 := Lib.hid (HQ1.out.next hc2 hg2)
  clear hc2 hg2 HP1 HQ1
  have hne : ¬ w.heap.size = w1.heap.size := by omega
  rcases (by omega : n = 0 ∨ n = 1 ∨ 2 ≤ n) with rfl | rfl | hn
  · go_wp2_with fail
    refine (l4Raw_any p _ HP2.out.2.1).mono ?_
    rintro e w3 ⟨⟨u, hu0, hu1, rfl⟩, hc3, hg3⟩
    have HP3 := Lib.hid (HP2.out.next hc3 hg3)
    have HQ3 := Lib.hid (HQ2.out.next hc3 hg3)
    clear hc3 hg3 HP2 HQ2
    obtain ⟨k0, k1⟩ := HP3.out.cell (j := 0) rfl
    obtain ⟨f0, f1⟩ := HP3.out.frozen (j := 0) rfl
    obtain ⟨k2, k3⟩ := HQ3.out.cell (j := 0) rfl
    obtain ⟨f2, f3⟩ := HQ3.out.frozen (j := 0) rfl
    simp only [Nat.add_zero] at k0 k1 f0 f1 k2 k3 f2 f3
    go_wp2
    refine bodyPost_ret (v := PtV u y) (by simp [results, Tryz.results50, go_sem, k0, k1]) rfl ?_
    have h := Pen.put (Pen.put (HP3.out.other (b := w1.heap.size) (by simpa using hlt) 0 (.int .i64 u)).out hp (Nat.le_refl _) 0 (.int .i64 u)) hp (Nat.le_refl _) 1 (.int .i64 y)
    exact ⟨⟨u, y, hu0, hu1, by omega, by omega, rfl⟩, h.1, h.2⟩
  · go_wp2_with fail
    refine (l4Raw_any p _ HP2.out.2.1).mono ?_
    rintro e w3 ⟨⟨u, hu0, hu1, rfl⟩, hc3, hg3⟩
    have HP3 := Lib.hid (HP2.out.next hc3 hg3)
    have HQ3 := Lib.hid (HQ2.out.next hc3 hg3)
    clear hc3 hg3 HP2 HQ2
    obtain ⟨k0, k1⟩ := HP3.out.cell (j := 0) rfl
    obtain ⟨f0, f1⟩ := HP3.out.frozen (j := 0) rfl
    obtain ⟨k2, k3⟩ := HQ3.out.cell (j := 0) rfl
    obtain ⟨f2, f3⟩ := HQ3.out.frozen (j := 0) rfl
    simp only [Nat.add_zero] at k0 k1 f0 f1 k2 k3 f2 f3
    go_wp2
    refine bodyPost_ret (v := PtV x u) (by simp [results, Tryz.results50, go_sem, k0, k1]) rfl ?_
    have h := Pen.put (Pen.put (HP3.out.other (b := w1.heap.size) (by simpa using hlt) 1 (.int .i64 u)).out hp (Nat.le_refl _) 0 (.int .i64 x)) hp (Nat.le_refl _) 1 (.int .i64 u)
    exact ⟨⟨x, u, by omega, by omega, hu0, hu1, rfl⟩, h.1, h.2⟩
  · obtain ⟨k0, k1⟩ := HP2.out.cell (j := 0) rfl
    obtain ⟨f0, f1⟩ := HP2.out.frozen (j := 0) rfl
    obtain ⟨k2, k3⟩ := HQ2.out.cell (j := 0) rfl
    simp only [Nat.add_zero] at k0 k1 f0 f1 k2 k3
    go_wp2
    refine bodyPost_ret (v := PtV x y) (by simp [results, Tryz.results50, go_sem, k0, k1]) rfl ?_
    have h := Pen.put (Pen.put HP2.out.out hp (Nat.le_refl _) 0 (.int .i64 x)) hp (Nat.le_refl _) 1 (.int .i64 y)
    exact ⟨⟨x, y, by omega, by omega, by omega, by omega, rfl⟩, h.1, h.2⟩
/-- Two, three points were drawn. -/
def Is64 (x : Int) : Prop := -9223372036854775808 ≤ x ∧ x ≤ 9223372036854775807
def DPt3 (p : Nat) (w : World) (e : Ending) (w' : World) : Prop :=
  (∃ a b c d x y : Int, (Is64 a ∧ Is64 b ∧ Is64 c ∧ Is64 d ∧ Is64 x ∧ Is64 y) ∧ e = .returned (.tuple #[PtV a b, PtV c d, PtV x y])) ∧ Cur w' p ∧ w.grownBy w' (some p)
/-- Whole draws. -/
def GotPt3 (w : World) (e : Ending) (w' : World) : Prop :=
  (∃ a b c d x y : Int, (Is64 a ∧ Is64 b ∧ Is64 c ∧ Is64 d ∧ Is64 x ∧ Is64 y) ∧ e = .returned (.tuple #[PtV a b, PtV c d, PtV x y])) ∧ Below w.heap.size w w'
def GotPt2 (w : World) (e : Ending) (w' : World) : Prop :=
  (∃ a b c d : Int, (Is64 a ∧ Is64 b ∧ Is64 c ∧ Is64 d) ∧ e = .returned (.tuple #[PtV a b, PtV c d])) ∧ Below w.heap.size w w'
def GotPtII (w : World) (e : Ending) (w' : World) : Prop :=
  (∃ a b p q : Int, (Is64 a ∧ Is64 b ∧ (-2000 ≤ p ∧ p ≤ 2000) ∧ (-2000 ≤ q ∧ q ≤ 2000)) ∧ e = .returned (.tuple #[PtV a b, .int .i64 p, .int .i64 q])) ∧ Below w.heap.size w w'
end Go.Proofs.YtbnjaaegbmhopaaGreatDoor
