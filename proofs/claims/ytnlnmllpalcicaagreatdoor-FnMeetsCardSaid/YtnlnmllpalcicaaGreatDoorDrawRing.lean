/- The model's draws of rings. -/
import Derived.Test.YtnlnmllpalcicaaGreatDoorDrawLine2
import Derived.Test.YtnlnmllpalcicaaGreatDoorRingV
import Derived.Test.YtnlnmllpalcicaaGreatDoorStepE
namespace Go.Proofs.YtnlnmllpalcicaaGreatDoor
open Go.ChangeShapes Go.WideShapes Go.ChangeAt Go.RowKit
set_option linter.unusedVariables false

/-- A cursor p behind what a call has made. -/
def CurG (p : Nat) (w0 w : World) : Prop := p < w0.heap.size ∧ Cur w p ∧ w0.grownBy w (some p)
section
variable {p : Nat} {w0 w w' : World}
theorem CurG.start (h : Cur w p) : CurG p w w := ⟨cur_lt h, h, grown_refl _ _⟩
theorem CurG.next (h : CurG p w0 w) (hc : Cur w' p) (hg : w.grownBy w' (some p)) : CurG p w0 w' := ⟨h.1, hc, grown_trans h.2.2 hg⟩
theorem CurG.bel (h : CurG p w0 w) (hb : Below w.heap.size w w') : CurG p w0 w' := ⟨h.1, cur_below h.2.1 hb (Nat.lt_of_lt_of_le h.1 h.2.2.size), grownB h.2.2 hb h.2.2.size⟩
theorem CurG.lits (h : CurG p w0 w) (L : List (Int × Int)) (n : Nat) (cs : Array Value) (hn : L.length = n) (hcs : cs.toList = cellsE encPoint L) (hm : n ≤ 100) : Rowed p w0 (w.alloc (.cells cs 72)) (.slice (some ⟨w.heap.size, 0, none⟩) n n) L := by
  subst hn
  refine ⟨h.1, cur_alloc h.2.1 _, grown_alloc h.2.2 _, ?_⟩
  have hsz : cs.size = L.length * 2 := by rw [← Array.length_toList, hcs]; exact cellsE_len elPoint L
  have := World.ownsRow_lit (base := w0.heap.size) (e := 72) (size := 2) w cs L.length h.2.2.size (by unfold maxLen; omega) hsz
  unfold OwnE
  rw [← hcs]; exact this
end
theorem SeesE.suf' {α : Type} {n : Nat} {enc : α → List Value} {w : World} {B : Nat} {A : Option Addr} {l : List α} (h : SeesE n enc w B A l) (j : Nat) (A' : Option Addr) (hA : j < l.length → A' = A.map (·.add (j * n))) : SeesE n enc w B A' (l.drop j) := by
  have := h.cut j (l.length - j) A' hA
  rwa [List.take_of_length_le (by simp)] at this
theorem l7P_any (x y : Int) (w : World) :
    Calls Tryz.prog 127 #[.int .i64 x, .int .i64 y] w fun e w' => e = .returned (PtV x y) ∧ Below w.heap.size w w' := by
  go_enter Tryz.func127, Tryz.ntmps127
  go_wp2
  refine bodyPost_ret (v := PtV x y) (by simp [results, Tryz.results127, go_sem]) rfl ⟨rfl, ?_⟩
  exact (Below.refl _ _).alloc (Nat.le_refl _) _
/-- A shape was drawn. -/
def DShp (p : Nat) (w : World) (e : Ending) (w' : World) : Prop :=
  ∃ A c l, e = .returned (.slice A l.length c) ∧ ShP l ∧ Rowed p w w' (.slice A l.length c) l
set_option maxRecDepth 100000 in
set_option maxHeartbeats 4000000 in
theorem l7Draw_any (p : Nat) (w : World) (hc : Cur w p) :
    Calls Tryz.prog 119 #[.pointer (some ⟨p, 0, none⟩)] w (DShp p w) := by
  have HR := Lib.hid (CurG.start hc)
  clear hc
  go_enter Tryz.func119, Tryz.ntmps119
  go_wp2_with fail
  refine (below_any p 8 _ (by decide) (by decide) HR.out.2.1).mono ?_
  rintro e w1 ⟨⟨x, x0, x1, rfl⟩, hc1, hg1⟩
  have HR := Lib.hid (HR.out.next hc1 hg1)
  clear hc1 hg1
  go_wp2_with fail
  refine (below_any p 8 _ (by decide) (by decide) HR.out.2.1).mono ?_
  rintro e w2 ⟨⟨y, y0, y1, rfl⟩, hc1, hg1⟩
  have HR := Lib.hid (HR.out.next hc1 hg1)
  clear hc1 hg1
  go_wp2_with fail
  refine (below_any p 6 _ (by decide) (by decide) HR.out.2.1).mono ?_
  rintro e w3 ⟨⟨u, u0, u1, rfl⟩, hc1, hg1⟩
  have HR := Lib.hid (HR.out.next hc1 hg1)
  clear hc1 hg1
  have hu : IntKind.i64.wrap (2 + u) = 2 + u := IntWalk.i64_in _ (by omega)
  obtain ⟨W, hW⟩ : ∃ W, 2 + u = W := ⟨_, rfl⟩
  have hW2 : 2 ≤ W ∧ W ≤ 7 := by omega
  go_wp2_with fail
  refine (below_any p 6 _ (by decide) (by decide) HR.out.2.1).mono ?_
  rintro e w4 ⟨⟨v, v0, v1, rfl⟩, hc1, hg1⟩
  have HR := Lib.hid (HR.out.next hc1 hg1)
  clear hc1 hg1
  have hv : IntKind.i64.wrap (2 + v) = 2 + v := IntWalk.i64_in _ (by omega)
  obtain ⟨V, hV⟩ : ∃ V, 2 + v = V := ⟨_, rfl⟩
  have hV2 : 2 ≤ V ∧ V ≤ 7 := by omega
  go_wp2_with fail
  refine (below_any p 4 _ (by decide) (by decide) HR.out.2.1).mono ?_
  rintro e w5 ⟨⟨k, k0, k1, rfl⟩, hc1, hg1⟩
  have HR := Lib.hid (HR.out.next hc1 hg1)
  clear hc1 hg1
  rcases (by omega : k = 0 ∨ k = 1 ∨ k = 2 ∨ k = 3) with rfl | rfl | rfl | rfl
  · go_wp2_with (go_at_call 127; refine (l7P_any _ _ _).mono ?_; rintro e w9 ⟨rfl, hb9⟩; have HR := Lib.hid (HR.out.bel hb9); clear hb9)
    go_ret
    exact ⟨_, _, [(x, y), (x + W, y), (x + W, y + V), (x, y + V)], rfl, ⟨x, y, W, V, hW2, hV2, .inl rfl⟩, HR.out.lits _ 4 _ rfl rfl (by decide)⟩
  · go_wp2_with (go_at_call 127; refine (l7P_any _ _ _).mono ?_; rintro e w9 ⟨rfl, hb9⟩; have HR := Lib.hid (HR.out.bel hb9); clear hb9)
    go_ret
    exact ⟨_, _, [(x, y), (x + W, y), (x, y + V)], rfl, ⟨x, y, W, V, hW2, hV2, .inr (.inl rfl)⟩, HR.out.lits _ 3 _ rfl rfl (by decide)⟩
  · go_wp2_with (go_at_call 127; refine (l7P_any _ _ _).mono ?_; rintro e w9 ⟨rfl, hb9⟩; have HR := Lib.hid (HR.out.bel hb9); clear hb9)
    go_ret
    exact ⟨_, _, [(x, y), (x + 2 * W, y), (x + 2 * W, y + V), (x + W, y + V), (x + W, y + 2 * V), (x, y + 2 * V)], rfl, ⟨x, y, W, V, hW2, hV2, .inr (.inr (.inl rfl))⟩, HR.out.lits _ 6 _ rfl rfl (by decide)⟩
  · go_wp2_with (go_at_call 127; refine (l7P_any _ _ _).mono ?_; rintro e w9 ⟨rfl, hb9⟩; have HR := Lib.hid (HR.out.bel hb9); clear hb9)
    go_ret
    exact ⟨_, _, [(x, y), (x + W, y + 1), (x + 2 * W, y), (x + W, y + V)], rfl, ⟨x, y, W, V, hW2, hV2, .inr (.inr (.inr rfl))⟩, HR.out.lits _ 4 _ rfl rfl (by decide)⟩
/-- A row of at most 6 points was drawn; it has an area if it is a ring. -/
def RRow (p : Nat) (w : World) (e : Ending) (w' : World) : Prop :=
  ∃ A c l, e = .returned (.slice A l.length c) ∧ 2 ≤ l.length ∧ l.length ≤ 6 ∧ l.length ≤ c ∧ (c : Int) ≤ 9223372036854775807 ∧ Fine l ∧ SeesE 2 encPoint w' w'.heap.size A l ∧ (∀ a, A = some a → w.heap.size ≤ a.block) ∧ Cur w' p ∧ w.grownBy w' (some p)
theorem OwnE.capMax {α : Type} {n : Nat} {enc : α → List Value} {w : World} {B : Nat} {e : TypeId} {A : Option Addr} {m c : Nat} {L : List α} (h : OwnE n enc w B e (.slice A m c) L) : (c : Int) ≤ 9223372036854775807 := by
  obtain ⟨A', c', hv, hc, -⟩ := h.form
  simp only [Value.slice.injEq] at hv
  unfold maxLen at hc
  omega
theorem Rowed.rrow {p : Nat} {w w' : World} {A : Option Addr} {c : Nat} {L : List (Int × Int)} (h : Rowed p w w' (.slice A L.length c) L) (h1 : 2 ≤ L.length) (h2 : L.length ≤ 6) (hf : Fine L) : RRow p w (.returned (.slice A L.length c)) w' :=
  ⟨A, c, L, rfl, h1, h2, h.2.2.2.cap, h.2.2.2.capMax, hf, h.2.2.2.sees elPoint, h.2.2.2.base, h.2.1, h.2.2.1⟩
/-- Whole draws. -/
def GotRing (w : World) (e : Ending) (w' : World) : Prop :=
  ∃ A c l, e = .returned (.slice A l.length c) ∧ 2 ≤ l.length ∧ l.length ≤ 6 ∧ l.length ≤ c ∧ (c : Int) ≤ 9223372036854775807 ∧ Fine l ∧ SeesE 2 encPoint w' w'.heap.size A l ∧ Below w.heap.size w w'
def GotRingK (w : World) (e : Ending) (w' : World) : Prop :=
  ∃ A c l k, e = .returned (.tuple #[.slice A l.length c, .int .i64 k]) ∧ 2 ≤ l.length ∧ l.length ≤ 6 ∧ l.length ≤ c ∧ (c : Int) ≤ 9223372036854775807 ∧ (-1 ≤ k ∧ k ≤ 6) ∧ SeesE 2 encPoint w' w'.heap.size A l ∧ Below w.heap.size w w'
def GotRingP (w : World) (e : Ending) (w' : World) : Prop :=
  ∃ A c l x y, e = .returned (.tuple #[.slice A l.length c, PtV x y]) ∧ 2 ≤ l.length ∧ l.length ≤ 6 ∧ l.length ≤ c ∧ (c : Int) ≤ 9223372036854775807 ∧ SeesE 2 encPoint w' w'.heap.size A l ∧ Below w.heap.size w w'
end Go.Proofs.YtnlnmllpalcicaaGreatDoor
