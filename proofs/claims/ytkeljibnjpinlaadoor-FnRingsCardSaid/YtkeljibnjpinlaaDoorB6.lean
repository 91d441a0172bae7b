/- Texts of this seat, one behind the other. -/
import Derived.Test.YtkeljibnjpinlaaDoorB4
import Derived.Test.YtkeljibnjpinlaaDoorB5
import Derived.Test.YtkeljibnjpinlaaDoorB3
import Derived.Deep.RegionHeld3
import Derived.Deep.DeepCutAuto
/- The model's draws of rings. -/
namespace Go.Proofs.YtkeljibnjpinlaaDoor
open Go.ChangeShapes Go.WideShapes Go.ChangeAt Go.RowKit
set_option linter.unusedVariables false

/-- A cursor p behind what a call has made. -/
def CurG (p : Nat) (w0 w : World) : Prop := p < w0.heap.size ∧ Cur w p ∧ w0.grownBy w (some p)
section
variable {p : Nat} {w0 w w' : World}
theorem CurG.start (h : Cur w p) : CurG p w w := ⟨cur_lt h, h, grown_refl _ _⟩
theorem CurG.next (h : CurG p w0 w) (hc : Cur w' p) (hg : w.grownBy w' (some p)) : CurG p w0 w' := ⟨h.1, hc, grown_trans h.2.2 hg⟩
theorem CurG.bel (h : CurG p w0 w) (hb : Below w.heap.size w w') : CurG p w0 w' := ⟨h.1, cur_below h.2.1 hb (Nat.lt_of_lt_of_le h.1 h.2.2.size), grownB h.2.2 hb h.2.2.size⟩
theorem CurG.lits (h : CurG p w0 w) (L : List (Int × Int)) (n : Nat) (cs : Array Value) (hn : L.length = n) (hcs : cs.toList = cellsE encPoint L) (hm : n ≤ 100) : Rowed p w0 (w.alloc (.cells cs 33)) (.slice (some ⟨w.heap.size, 0, none⟩) n n) L := by
  subst hn
  refine ⟨h.1, cur_alloc h.2.1 _, grown_alloc h.2.2 _, ?_⟩
  have hsz : cs.size = L.length * 2 := by rw [← Array.length_toList, hcs]; exact cellsE_len elPoint L
  have := World.ownsRow_lit (base := w0.heap.size) (e := 33) (size := 2) w cs L.length h.2.2.size (by unfold maxLen; omega) hsz
  unfold OwnE
  rw [← hcs]; exact this
end
theorem SeesE.suf' {α : Type} {n : Nat} {enc : α → List Value} {w : World} {B : Nat} {A : Option Addr} {l : List α} (h : SeesE n enc w B A l) (j : Nat) (A' : Option Addr) (hA : j < l.length → A' = A.map (·.add (j * n))) : SeesE n enc w B A' (l.drop j) := by
  have := h.cut j (l.length - j) A' hA
  rwa [List.take_of_length_le (by simp)] at this
theorem l7P_any (x y : Int) (w : World) :
    Calls Tryd.prog 75 #[.int .i64 x, .int .i64 y] w fun e w' => e = .returned (PtV x y) ∧ Below w.heap.size w w' := by
  go_enter Tryd.func75, Tryd.ntmps75
  go_wp2
  refine bodyPost_ret (v := PtV x y) (by simp [results, Tryd.results75, go_sem]) rfl ⟨rfl, ?_⟩
  exact (Below.refl _ _).alloc (Nat.le_refl _) _
/-- A shape was drawn. -/
def DShp (p : Nat) (w : World) (e : Ending) (w' : World) : Prop :=
  ∃ A c l, e = .returned (.slice A l.length c) ∧ ShP l ∧ Rowed p w w' (.slice A l.length c) l
set_option maxRecDepth 100000 in
set_option maxHeartbeats 4000000 in
theorem l7Draw_any (p : Nat) (w : World) (hc : Cur w p) :
    Calls Tryd.prog 53 #[.pointer (some ⟨p, 0, none⟩)] w (DShp p w) := by
  have HR := Lib.hid (CurG.start hc)
  clear hc
  go_enter Tryd.func53, Tryd.ntmps53
  go_wp2_with fail
  refine (below_any p 8 _ (by decide) (by decide) HR.out.2.1).mono ?_
  rintro e w1 ⟨⟨x, x0, x1, rfl⟩, hc1, hg1⟩
  have HR := Lib.hid (HR.out.next hc1 hg1)
  clear hc1 hg1
  go_wp2_with fail
  refine (below_any p 8 _ (by decide) (by decide) HR.out.2.1).mono ?_
  rintro e w2 ⟨⟨y, y0, y1, rfl⟩, hc1, hg1⟩
  have HR := Lib.hid (HR.out.next hc1 hg1)
  clear hc1 hg1
  go_wp2_with fail
  refine (below_any p 6 _ (by decide) (by decide) HR.out.2.1).mono ?_
  rintro e w3 ⟨⟨u, u0, u1, rfl⟩, hc1, hg1⟩
  have HR := Lib.hid (HR.out.next hc1 hg1)
  clear hc1 hg1
  have hu : IntKind.i64.wrap (2 + u) = 2 + u := IntWalk.i64_in _ (by omega)
  obtain ⟨W, hW⟩ : ∃ W, 2 + u = W := ⟨_, rfl⟩
  have hW2 : 2 ≤ W ∧ W ≤ 7 := by omega
  go_wp2_with fail
  refine (below_any p 6 _ (by decide) (by decide) HR.out.2.1).mono ?_
  rintro e w4 ⟨⟨v, v0, v1, rfl⟩, hc1, hg1⟩
  have HR := Lib.hid (HR.out.next hc1 hg1)
  clear hc1 hg1
  have hv : IntKind.i64.wrap (2 + v) = 2 + v := IntWalk.i64_in _ (by omega)
  obtain ⟨V, hV⟩ : ∃ V, 2 + v = V := ⟨_, rfl⟩
  have hV2 : 2 ≤ V ∧ V ≤ 7 := by omega
  go_wp2_with fail
  refine (below_any p 4 _ (by decide) (by decide) HR.out.2.1).mono ?_
  rintro e w5 ⟨⟨k, k0, k1, rfl⟩, hc1, hg1⟩
  have HR := Lib.hid (HR.out.next hc1 hg1)
  clear hc1 hg1
  rcases (by omega : k = 0 ∨ k = 1 ∨ k = 2 ∨ k = 3) with rfl | rfl | rfl | rfl
  · go_wp2_with (go_at_call 75; refine (l7P_any _ _ _).mono ?_; rintro e w9 ⟨rfl, hb9⟩; have HR := Lib.hid (HR.out.bel hb9); clear hb9)
    go_ret
    exact ⟨_, _, [(x, y), (x + W, y), (x + W, y + V), (x, y + V)], rfl, ⟨x, y, W, V, hW2, hV2, .inl rfl⟩, HR.out.lits _ 4 _ rfl rfl (by decide)⟩
  · go_wp2_with (go_at_call 75; refine (l7P_any _ _ _).mono ?_; rintro e w9 ⟨rfl, hb9⟩; have HR := Lib.hid (HR.out.bel hb9); clear hb9)
    go_ret
    exact ⟨_, _, [(x, y), (x + W, y), (x, y + V)], rfl, ⟨x, y, W, V, hW2, hV2, .inr (.inl rfl)⟩, HR.out.lits _ 3 _ rfl rfl (by decide)⟩
  · go_wp2_with (go_at_call 75; refine (l7P_any _ _ _).mono ?_; rintro e w9 ⟨rfl, hb9⟩; have HR := Lib.hid (HR.out.bel hb9); clear hb9)
    go_ret
    exact ⟨_, _, [(x, y), (x + 2 * W, y), (x + 2 * W, y + V), (x + W, y + V), (x + W, y + 2 * V), (x, y + 2 * V)], rfl, ⟨x, y, W, V, hW2, hV2, .inr (.inr (.inl rfl))⟩, HR.out.lits _ 6 _ rfl rfl (by decide)⟩
  · go_wp2_with (go_at_call 75; refine (l7P_any _ _ _).mono ?_; rintro e w9 ⟨rfl, hb9⟩; have HR := Lib.hid (HR.out.bel hb9); clear hb9)
    go_ret
    exact ⟨_, _, [(x, y), (x + W, y + 1), (x + 2 * W, y), (x + W, y + V)], rfl, ⟨x, y, W, V, hW2, hV2, .inr (.inr (.inr rfl))⟩, HR.out.lits _ 4 _ rfl rfl (by decide)⟩
/-- A row of at most 6 points was drawn; it has an area if it is a ring. -/
def RRow (p : Nat) (w : World) (e : Ending) (w' : World) : Prop :=
  ∃ A c l, e = .returned (.slice A l.length c) ∧ 2 ≤ l.length ∧ l.length ≤ 6 ∧ l.length ≤ c ∧ (c : Int) ≤ 9223372036854775807 ∧ Fine l ∧ SeesE 2 encPoint w' w'.heap.size A l ∧ (∀ a, A = some a → w.heap.size ≤ a.block) ∧ Cur w' p ∧ w.grownBy w' (some p)
theorem OwnE.capMax {α : Type} {n : Nat} {enc : α → List Value} {w : World} {B : Nat} {e : TypeId} {A : Option Addr} {m c : Nat} {L : List α} (h : OwnE n enc w B e (.slice A m c) L) : (c : Int) ≤ 9223372036854775807 := by
  obtain ⟨A', c', hv, hc, -⟩ := h.form
  simp only [Value.slice.injEq] at hv
  unfold maxLen at hc
  omega
theorem Rowed.rrow {p : Nat} {w w' : World} {A : Option Addr} {c : Nat} {L : List (Int × Int)} (h : Rowed p w w' (.slice A L.length c) L) (h1 : 2 ≤ L.length) (h2 : L.length ≤ 6) (hf : Fine L) : RRow p w (.returned (.slice A L.length c)) w' :=
  ⟨A, c, L, rfl, h1, h2, h.2.2.2.cap, h.2.2.2.capMax, hf, h.2.2.2.sees elPoint, h.2.2.2.base, h.2.1, h.2.2.1⟩
set_option maxRecDepth 100000 in
set_option maxHeartbeats 4000000 in
theorem l7Any_any (p : Nat) (w : World) (hc : Cur w p) :
    Calls Tryd.prog 32 #[.pointer (some ⟨p, 0, none⟩)] w (RRow p w) := by
  have HC := Lib.hid hc
  have hp := cur_lt hc
  clear hc
  go_enter Tryd.func32, Tryd.ntmps32
  go_wp2_with fail
  refine (l7Draw_any p _ HC.out).mono ?_
  rintro e w1 ⟨A1, c1, L, rfl, hsh, hr1⟩
  have h3 := hsh.len
  have h1 : 1 ≤ L.length := by omega
  have HH := Lib.hid hsh
  have HR1 := Lib.hid hr1
  clear hr1 hsh
  go_wp2_with fail
  refine (below_any p 10 _ (by decide) (by decide) HR1.out.2.1).mono ?_
  rintro e w2 ⟨⟨n, hn0, hn1, rfl⟩, hc2, hg2⟩
  have HR2 := Lib.hid (HR1.out.next hc2 hg2)
  clear hc2 hg2 HR1
  rcases (by omega : n = 0 ∨ n = 1 ∨ n = 2 ∨ 3 ≤ n) with rfl | rfl | rfl | hn
  · obtain ⟨g, rfl, hBg, -, -⟩ := HR2.out.2.2.2.row (by omega)
    go_wp2_with fail
    refine (l4Any_any p _ HR2.out.2.1).mono ?_
    rintro e w3 ⟨⟨u, v, -, -, -, -, rfl⟩, hc3, hg3⟩
    have HR3 := Lib.hid (HR2.out.next hc3 hg3)
    clear hc3 hg3 HR2
    obtain ⟨g', hg', -, -, hr⟩ := HR3.out.2.2.2.row (by omega)
    obtain rfl : g = g' := by simpa using hg'
    obtain ⟨⟨y0, y1⟩, hy⟩ : ∃ y, L[0]? = some y := ⟨_, List.getElem?_eq_getElem (by omega)⟩
    obtain ⟨k0, k1⟩ := rowCellsPoint hr hy
    obtain ⟨f0, f1⟩ := rowFrozenPoint hr 0
    have hset := rowPoint_set hr (j := 0) (by omega) u v
    simp only [Nat.zero_mul, Nat.zero_add] at k0 k1 f0 f1 hset
    have hl0 : (0 : Int) < (L.length : Int) := by omega
    have HS := Lib.hid hset
    have hcap := HR3.out.2.2.2.cap
    have hcm := HR3.out.2.2.2.capMax
    clear hset hr hy hg'
    go_wp2
    go_ret
    have hs := HS.out.own elPoint hBg
    rw [List.length_set] at hs
    have hpg : p < g := by have := hp; omega
    exact ⟨_, c1, L.set 0 (u, v), by rw [List.length_set]; rfl, by rw [List.length_set]; omega, by rw [List.length_set]; omega, by rw [List.length_set]; exact hcap, hcm, HH.out.head u v, hs.sees elPoint, hs.base, cur_set_other (cur_set_other HR3.out.2.1 hpg) hpg, grown_setNew (grown_setNew HR3.out.2.2.1 hBg _ _) hBg _ _⟩
  · obtain ⟨a, b, t, hL⟩ : ∃ a b t, L = a :: b :: t := by
      match L, h3 with
      | a :: b :: t, _ => exact ⟨a, b, t, rfl⟩
    have HLL := Lib.hid hL
    have g0 : L[0]? = some a := by rw [hL]; rfl
    have g1 : L[1]? = some b := by rw [hL]; rfl
    obtain ⟨x0, x1⟩ := a
    obtain ⟨y0, y1⟩ := b
    clear hL
    have hs := HR2.out.2.2.2.sees elPoint
    obtain ⟨bb, off, hA, hbl, -⟩ := hs 0 _ g0
    subst hA
    obtain ⟨q0, q1⟩ := cellsPoint hs g0
    obtain ⟨q2, q3⟩ := cellsPoint hs g1
    simp only [Nat.zero_mul, Nat.add_zero, Nat.one_mul] at q0 q1 q2 q3
    have HT0 := Lib.hid (hs.suf' 2 (some ⟨bb, off + 4, none⟩) (fun _ => by simp [add_none]))
    have hl0 : (0 : Int) < (L.length : Int) := by omega
    have hl1 : (1 : Int) < (L.length : Int) := by omega
    have hl2 : (2 : Int) ≤ (L.length : Int) := by omega
    have hcap := HR2.out.2.2.2.cap
    have hlc2 : (2 : Int) ≤ (c1 : Int) := by omega
    have HT : Hid (SeesE 2 encPoint w2 w2.heap.size (if c1 = 2 then some ⟨bb, off, none⟩ else some ⟨bb, off + 4, none⟩) (L.drop 2)) := Lib.hid (by rw [if_neg (by omega)]; exact HT0.out)
    clear g0 g1 hs
    have hle : w.heap.size ≤ w2.heap.size := HR2.out.2.2.1.size
    have HB1 : Hid (Below w2.heap.size w2 (w2.alloc (.cells #[.int .i64 y0, .int .i64 y1, .int .i64 x0, .int .i64 x1] 33)).drew) := Lib.hid ((Below.refl _ w2).alloc (Nat.le_refl _) _).drew
    have HO0 : Hid (OwnE 2 encPoint (w2.alloc (.cells #[.int .i64 y0, .int .i64 y1, .int .i64 x0, .int .i64 x1] 33)).drew w2.heap.size 33 (.slice (some ⟨w2.heap.size, 0, none⟩) 2 2) [(y0, y1), (x0, x1)]) := Lib.hid ((World.ownsRow_lit (base := w2.heap.size) (e := 33) (size := 2) w2 #[.int .i64 y0, .int .i64 y1, .int .i64 x0, .int .i64 x1] 2 (Nat.le_refl _) (by decide) rfl))
    have HA0 : Hid (SeesE 2 encPoint (w2.alloc (.cells #[.int .i64 y0, .int .i64 y1, .int .i64 x0, .int .i64 x1] 33)).drew w2.heap.size (if c1 = 2 then some ⟨bb, off, none⟩ else some ⟨bb, off + 4, none⟩) (L.drop 2)) := Lib.hid (HT.out.below HB1.out)
    have HE1 : Hid (L.length - 2 = (L.drop 2).length) := Lib.hid (by simp)
    have HDD : Hid ([(y0, y1), (x0, x1)].length + (L.drop 2).length ≤ 1099511627776) := Lib.hid (by simp; omega)
    have HW0 : Hid (w2.heap.size ≤ (w2.alloc (.cells #[.int .i64 y0, .int .i64 y1, .int .i64 x0, .int .i64 x1] 33)).drew.heap.size) := Lib.hid HB1.out.size
    have K : Hid ((w2.cell? ⟨bb, off, none⟩ = some (.int .i64 x0) ∧ w2.cell? ⟨bb, off + 1, none⟩ = some (.int .i64 x1)) ∧ (w2.cell? ⟨bb, off + 2, none⟩ = some (.int .i64 y0) ∧ w2.cell? ⟨bb, off + 2 + 1, none⟩ = some (.int .i64 y1))) := Lib.hid ⟨⟨q0, q1⟩, q2, q3⟩
    have KD : Hid ((w2.drew.cell? ⟨bb, off, none⟩ = some (.int .i64 x0) ∧ w2.drew.cell? ⟨bb, off + 1, none⟩ = some (.int .i64 x1)) ∧ (w2.drew.cell? ⟨bb, off + 2, none⟩ = some (.int .i64 y0) ∧ w2.drew.cell? ⟨bb, off + 2 + 1, none⟩ = some (.int .i64 y1))) := Lib.hid ⟨⟨q0, q1⟩, q2, q3⟩
    have KA : Hid (((w2.alloc (.cells #[.int .i64 y0, .int .i64 y1, .int .i64 x0, .int .i64 x1] 33)).drew.cell? ⟨bb, off, none⟩ = some (.int .i64 x0) ∧ (w2.alloc (.cells #[.int .i64 y0, .int .i64 y1, .int .i64 x0, .int .i64 x1] 33)).drew.cell? ⟨bb, off + 1, none⟩ = some (.int .i64 x1)) ∧ ((w2.alloc (.cells #[.int .i64 y0, .int .i64 y1, .int .i64 x0, .int .i64 x1] 33)).drew.cell? ⟨bb, off + 2, none⟩ = some (.int .i64 y0) ∧ (w2.alloc (.cells #[.int .i64 y0, .int .i64 y1, .int .i64 x0, .int .i64 x1] 33)).drew.cell? ⟨bb, off + 2 + 1, none⟩ = some (.int .i64 y1))) := Lib.hid ⟨⟨(HB1.out.cell hbl).trans q0, (HB1.out.cell hbl).trans q1⟩, (HB1.out.cell hbl).trans q2, (HB1.out.cell hbl).trans q3⟩
    have i0 : 0 < L.length := by omega
    have i1 : 1 < L.length := by omega
    have HSW : Hid (Fine ((y0, y1) :: (x0, x1) :: L.drop 2)) := Lib.hid (by have := HH.out; rw [HLL.out] at this ⊢; exact this.swap)
    have HCG : Hid (p < w.heap.size ∧ Cur w2 p ∧ w.grownBy w2 (some p)) := Lib.hid ⟨HR2.out.1, HR2.out.2.1, HR2.out.2.2.1⟩
    go_wp2_with fail
    go_region_held3 (fun w' => (w'.cell? ⟨bb, off, none⟩ = some (.int .i64 x0) ∧ w'.cell? ⟨bb, off + 1, none⟩ = some (.int .i64 x1)) ∧ (w'.cell? ⟨bb, off + 2, none⟩ = some (.int .i64 y0) ∧ w'.cell? ⟨bb, off + 2 + 1, none⟩ = some (.int .i64 y1))) (first | with_reducible exact K.out | with_reducible exact KD.out | with_reducible exact KA.out | with_reducible exact K4.out) (first
      | (refine stepPt (w2.alloc (.cells #[.int .i64 y0, .int .i64 y1, .int .i64 x0, .int .i64 x1] 33)).drew _ _ (by rfl) w2.heap.size (.slice (some ⟨w2.heap.size, 0, none⟩) 2 2) [(y0, y1), (x0, x1)] (by rfl) HO0.out w2.heap.size (if c1 = 2 then some ⟨bb, off, none⟩ else some ⟨bb, off + 4, none⟩) (L.length - 2) (c1 - 2) (L.drop 2) (by rfl) HE1.out HA0.out HDD.out HW0.out ?_; intro A4 c4 L4 w4 hL4 g1 g2 ho4 hb4; have HL4 := hL4; have HO4 := Lib.hid ho4; have HB4 := Lib.hid hb4; have HG := Lib.hid (And.intro g1 g2); have K4 : Hid ((w4.cell? ⟨bb, off, none⟩ = some (.int .i64 x0) ∧ w4.cell? ⟨bb, off + 1, none⟩ = some (.int .i64 x1)) ∧ (w4.cell? ⟨bb, off + 2, none⟩ = some (.int .i64 y0) ∧ w4.cell? ⟨bb, off + 2 + 1, none⟩ = some (.int .i64 y1))) := Lib.hid ⟨⟨(hb4.cell hbl).trans KA.out.1.1, (hb4.cell hbl).trans KA.out.1.2⟩, (hb4.cell hbl).trans KA.out.2.1, (hb4.cell hbl).trans KA.out.2.2⟩) | fail)
    all_goals
      go_wp2
      go_ret
      have hcg : CurG p w w4 := (show CurG p w w2 from HCG.out).bel (HB1.out.trans HB4.out)
      have e2 : (L.drop 2).length = L.length - 2 := by simp
      have g1 := HG.out.1
      have g2 := HG.out.2
      simp only [List.length_cons, List.length_nil, e2] at g1 g2
      have ho := HO4.out.mono hle
      exact Rowed.rrow ⟨hcg.1, hcg.2.1, hcg.2.2, ho⟩ (by omega) (by omega) (by rw [HL4.out]; exact HSW.out)
  · obtain ⟨g, rfl, hBg, -, -⟩ := HR2.out.2.2.2.row (by omega)
    have hcap := HR2.out.2.2.2.cap
    have hcm := HR2.out.2.2.2.capMax
    have hc1 : (2 : Int) ≤ (c1 : Int) := by omega
    go_wp2
    go_ret
    refine ⟨some ⟨g, 0, none⟩, _, L.take 2, by rw [List.length_take, Nat.min_eq_left (by omega)]; rfl, by rw [List.length_take]; omega, by rw [List.length_take]; omega, by rw [List.length_take]; omega, hcm, fine_short (by rw [List.length_take]; omega), ?_, HR2.out.2.2.2.base, HR2.out.2.1, HR2.out.2.2.1⟩
    have h := (HR2.out.2.2.2.sees elPoint).cut 0 2 (some ⟨g, 0, none⟩) (fun _ => by simp [add_none])
    rwa [List.drop_zero] at h
  · have n0 : ¬ n = 0 := by omega
    have n1 : ¬ n = 1 := by omega
    have n2 : ¬ n = 2 := by omega
    go_wp2
    go_ret
    exact HR2.out.rrow (by omega) h3.2 HH.out.fine
/-- Whole draws. -/
def GotRing (w : World) (e : Ending) (w' : World) : Prop :=
  ∃ A c l, e = .returned (.slice A l.length c) ∧ 2 ≤ l.length ∧ l.length ≤ 6 ∧ l.length ≤ c ∧ (c : Int) ≤ 9223372036854775807 ∧ Fine l ∧ SeesE 2 encPoint w' w'.heap.size A l ∧ Below w.heap.size w w'
def GotRingK (w : World) (e : Ending) (w' : World) : Prop :=
  ∃ A c l k, e = .returned (.tuple #[.slice A l.length c, .int .i64 k]) ∧ 2 ≤ l.length ∧ l.length ≤ 6 ∧ l.length ≤ c ∧ (c : Int) ≤ 9223372036854775807 ∧ (-1 ≤ k ∧ k ≤ 6) ∧ SeesE 2 encPoint w' w'.heap.size A l ∧ Below w.heap.size w w'
def GotRingP (w : World) (e : Ending) (w' : World) : Prop :=
  ∃ A c l x y, e = .returned (.tuple #[.slice A l.length c, PtV x y]) ∧ 2 ≤ l.length ∧ l.length ≤ 6 ∧ l.length ≤ c ∧ (c : Int) ≤ 9223372036854775807 ∧ SeesE 2 encPoint w' w'.heap.size A l ∧ Below w.heap.size w w'
theorem drawIsRing_any (A : Option Addr) (len cap B : Nat) (w : World) (hc : Code w B A len) :
    Calls Tryd.prog 9 #[.slice A len cap] w (GotRing w) := by
  have HC := Lib.hid hc
  clear hc
  go_enter Tryd.func9, Tryd.ntmps9
  go_wp2_with fail
  refine (new_any A len cap B _ HC.out).mono ?_
  rintro e w1 ⟨p, hp, rfl, hc1, hb1⟩
  have HB1 := Lib.hid hb1
  clear hb1
  go_wp2_with fail
  refine (l7Any_any p _ hc1).mono ?_
  rintro e w2 ⟨A2, c2, l, rfl, h1, h2, h3, h4, hf, hs, -, hc2, hg2⟩
  have HS := Lib.hid hs
  have HF := Lib.hid hf
  have HB2 := Lib.hid (below_grown HB1.out hg2 HB1.out.size hp)
  clear hs hc2 hg2 hc1 hf
  go_wp2
  go_ret
  exact ⟨A2, c2, l, rfl, h1, h2, h3, h4, HF.out, HS.out, HB2.out⟩
set_option maxRecDepth 100000 in
theorem drawRotateRing_any (A : Option Addr) (len cap B : Nat) (w : World) (hc : Code w B A len) :
    Calls Tryd.prog 13 #[.slice A len cap] w (GotRingK w) := by
  have HC := Lib.hid hc
  clear hc
  go_enter Tryd.func13, Tryd.ntmps13
  go_wp2_with fail
  refine (new_any A len cap B _ HC.out).mono ?_
  rintro e w1 ⟨p, hp, rfl, hc1, hb1⟩
  have HB1 := Lib.hid hb1
  have hpl := cur_lt hc1
  clear hb1
  go_wp2_with fail
  refine (l7Any_any p _ hc1).mono ?_
  rintro e w2 ⟨A2, c2, l, rfl, h1, h2, h3, h4, -, hs, hlo, hc2, hg2⟩
  have HS := Lib.hid hs
  have HB2 := Lib.hid (below_grown HB1.out hg2 HB1.out.size hp)
  have HL := Lib.hid hlo
  clear hs hg2 hc1 hlo
  go_wp2_with fail
  refine (below_any p 8 _ (by decide) (by decide) hc2).mono ?_
  rintro e w3 ⟨⟨k, k0, k1, rfl⟩, hc3, hg3⟩
  have HS2 := Lib.hid ((HS.out.kept hg3 (fun a ha => by have := HL.out a ha; omega)).mono hg3.size)
  have HB3 := Lib.hid (below_grown HB2.out hg3 HB2.out.size hp)
  have hkw : IntKind.i64.wrap (k - 1) = k - 1 := IntWalk.i64_in _ (by omega)
  clear hg3 hc2 hc3
  go_wp2
  refine bodyPost_ret (v := .tuple #[.slice A2 l.length c2, .int .i64 (k - 1)]) (by simp [results, Tryd.results13, go_sem]) rfl ?_
  exact ⟨A2, c2, l, k - 1, rfl, h1, h2, h3, h4, by omega, HS2.out, HB3.out⟩
theorem SeesE.setOther {α : Type} {n : Nat} {enc : α → List Value} {w : World} {B : Nat} {A : Option Addr} {l : List α} (h : SeesE n enc w B A l) (b i : Nat) (v : Value) (hne : ∀ a, A = some a → a.block ≠ b) : SeesE n enc (w.setCell ⟨b, i, none⟩ v) B A l := fun j x hj => by
  obtain ⟨b', off, e, hlt, hc⟩ := h j x hj
  exact ⟨b', off, e, hlt, fun k u hu => (World.cell?_of_block (Below.heap_setCell _ _ _ _ (by simpa using hne _ e))).trans (hc k u hu)⟩
set_option maxRecDepth 100000 in
set_option maxHeartbeats 1000000 in
theorem drawIsInside_any (A : Option Addr) (len cap B : Nat) (w : World) (hc : Code w B A len) :
    Calls Tryd.prog 15 #[.slice A len cap] w (GotRingP w) := by
  have HC := Lib.hid (code_below hc ((Below.refl B w).alloc hc.2.1 (.cells #[.int .i64 0, .int .i64 0] 33)))
  have HB := Lib.hid (Boxes.of1 (a := 0) (b := 0) w 33)
  clear hc
  go_enter Tryd.func15, Tryd.ntmps15
  go_wp2_with fail
  refine (new_any A len cap B _ HC.out).mono ?_
  rintro e w1 ⟨p, hp, rfl, hc1, hb1⟩
  have HB1 := Lib.hid (HB.out.next hb1)
  have hp' : w.heap.size + 1 ≤ p := by have := HB.out.2.1; exact Nat.le_trans this hp
  have hz1 : w.heap.size + 1 ≤ w1.heap.size := HB1.out.2.1
  have hpl := cur_lt hc1
  clear HB hb1 hp HC
  go_wp2_with fail
  refine (l7Any_any p _ hc1).mono ?_
  rintro e w2 ⟨A2, c2, l, rfl, h1, h2, h3, h4, -, hs, hlo, hc2, hg2⟩
  have HS := Lib.hid hs
  have HB2 := Lib.hid (HB1.out.nextG hg2 (by simpa using hp'))
  have HL := Lib.hid hlo
  clear hs hg2 hc1 hlo HB1
  go_wp2_with fail
  refine (l4Any_any p _ hc2).mono ?_
  rintro e w3 ⟨⟨x, y, -, -, -, -, rfl⟩, hc3, hg3⟩
  have HS2 := Lib.hid ((HS.out.kept hg3 (fun a ha => by have := HL.out a ha; omega)).mono hg3.size)
  have HB3 := Lib.hid (HB2.out.nextG hg3 (by simpa using hp'))
  obtain ⟨k0, k1⟩ := HB3.out.c1
  obtain ⟨f0, f1⟩ := HB3.out.frozen (j := 0) rfl
  simp only [Nat.add_zero] at f0 f1
  clear hg3 hc2 hc3 HB2
  go_wp2
  refine bodyPost_ret (v := .tuple #[.slice A2 l.length c2, PtV x y]) (by simp [results, Tryd.results15, go_sem, k0, k1]) rfl ?_
  have hne : ∀ a, A2 = some a → a.block ≠ w.heap.size := fun a ha => by have := HL.out a ha; omega
  exact ⟨A2, c2, l, x, y, rfl, h1, h2, h3, h4, ((HS2.out.setOther _ _ _ hne).setOther _ _ _ hne).mono (by simp [World.setCell]), ((HB3.out.1).setCell (Nat.le_refl _) _).setCell (Nat.le_refl _) _⟩
end Go.Proofs.YtkeljibnjpinlaaDoor

/- Segments: the functions of chapter 5 in package impl. -/
namespace Go.Proofs.YtkeljibnjpinlaaDoor
open Go.ChangeShapes Go.WideShapes Go.ChangeAt Go.RowKit
set_option linter.unusedVariables false

theorem drew_size (w : World) : w.drew.heap.size = w.heap.size := rfl
theorem min_bel (a b : Int) (w : World) :
    Calls Tryd.prog 100 #[.int .i64 a, .int .i64 b] w fun e w' => e = .returned (.int .i64 (min a b)) ∧ Below w.heap.size w w' := by
  rw [← ext_min]
  go_enter Tryd.func100, Tryd.ntmps100
  go_wp2_with (go_at_call 107; refine (ext_any _ _ b _ _ (by simp [go_sem])).mono ?_; rintro e w' ⟨rfl, rfl⟩)
  go_ret
  exact ⟨rfl, by repeat (first | exact Below.refl _ _ | apply Below.drew | (refine Below.alloc ?_ (Nat.le_refl _) _))⟩
theorem max_bel5 (a b : Int) (w : World) :
    Calls Tryd.prog 101 #[.int .i64 a, .int .i64 b] w fun e w' => e = .returned (.int .i64 (max a b)) ∧ Below w.heap.size w w' := by
  rw [← ext_max]
  go_enter Tryd.func101, Tryd.ntmps101
  go_wp2_with (go_at_call 107; refine (ext_any _ _ b _ _ (by simp [go_sem])).mono ?_; rintro e w' ⟨rfl, rfl⟩)
  go_ret
  exact ⟨rfl, by repeat (first | exact Below.refl _ _ | apply Below.drew | (refine Below.alloc ?_ (Nat.le_refl _) _))⟩
/-- A valid segment's value with its box beside it. -/
abbrev BoxedC (a b c d : Int) : Array Value := #[.int .i64 a, .int .i64 b, .int .i64 c, .int .i64 d, .int .i64 (min a c), .int .i64 (min b d), .int .i64 (max a c), .int .i64 (max b d)]
theorem outline_no (a b c d : Int) (w : World) (hs : isS a b c d = false) :
    Calls Tryd.prog 85 #[SegV a b c d] w fun e w' => e = .returned (.iface 141 (.agg #[])) ∧ Below w.heap.size w w' := by
  go_enter Tryd.func85, Tryd.ntmps85
  go_wp2_with fail
  refine (arePoints_any _ _ [(a, b), (c, d)] _ (seesP_new _ _ _ _ _ _ (by rfl) (by simp) (by simp)) (by simp)).mono ?_
  rintro e w1 ⟨rfl, hb1⟩
  have HB := Lib.hid (((Vars.of1 w (SegC a b c d) 60).al _).next hb1)
  clear hb1
  obtain ⟨k0, k1, k2, k3⟩ := HB.out.c4 w.heap.size 0 rfl rfl
  have he : allP [(a, b), (c, d)] = isP2 a b c d := by simp [allP, isP2]
  cases h : isP2 a b c d
  · have hx : allP [(a, b), (c, d)] = false := he.trans h
    clear he h
    go_wp2
    go_ret
    exact ⟨rfl, HB.out.1⟩
  · have hx : allP [(a, b), (c, d)] = true := he.trans h
    have heq : a = c ∧ b = d := by simpa [isS, h] using hs
    obtain ⟨rfl, rfl⟩ := heq
    clear he h
    go_wp2
    go_ret
    exact ⟨rfl, HB.out.1⟩
theorem isS_p2 {a b c d : Int} (h : isS a b c d = true) : isP2 a b c d = true := by
  simp only [isS, Bool.and_eq_true] at h; exact h.1
/-- A variable of the call's own behind some others: where it lies, and what it holds. -/
def Own1 (w wx : World) (n : Nat) (s : Value) (cs : Array Value) : Prop :=
  ∃ w3 : World, s = .pointer (some ⟨w3.heap.size, 0, none⟩) ∧ w.heap.size + n ≤ w3.heap.size ∧ Vars w3 wx [cs]
set_option maxHeartbeats 2000000 in
theorem outline_yes (a b c d : Int) (w : World) (hs : isS a b c d = true) :
    Calls Tryd.prog 85 #[SegV a b c d] w fun e w' => e = .returned (.iface 94 (.agg (BoxedC a b c d))) ∧ Below w.heap.size w w' := by
  obtain ⟨hA, hC, hne⟩ := isS_at hs
  have h := isS_p2 hs
  clear hs
  go_enter Tryd.func85, Tryd.ntmps85
  go_upto_region 1 with fail
  go_cut [18] (fun s18 wx => s18 = .bool false ∧ Hid (Vars w wx [SegC a b c d]))
  case first =>
    go_wp2_with fail
    refine (arePoints_any _ _ [(a, b), (c, d)] _ (seesP_new _ _ _ _ _ _ (by rfl) (by simp) (by simp)) (by simp)).mono ?_
    rintro e w1 ⟨rfl, hb1⟩
    have HB := Lib.hid (((Vars.of1 w (SegC a b c d) 60).al _).next hb1)
    clear hb1
    obtain ⟨k0, k1, k2, k3⟩ := HB.out.c4 w.heap.size 0 rfl rfl
    have he : allP [(a, b), (c, d)] = isP2 a b c d := by simp [allP, isP2]
    have hx : allP [(a, b), (c, d)] = true := he.trans h
    clear he h
    by_cases hac : a = c
    · have hbd : ¬ b = d := by omega
      subst hac
      go_wp2
      go_meet
      exact ⟨rfl, HB⟩
    · go_wp2
      go_meet
      exact ⟨rfl, HB⟩
  case rest =>
  obtain ⟨rfl, HB⟩ := hcut
  obtain ⟨k0, k1, k2, k3⟩ := HB.out.c4 w.heap.size 0 rfl rfl
  clear hne h
  have hl := HB.out.more1
  have HB8 := HB
  go_upto_region 3 with fail
  go_cut [3] (fun s3 wx => Hid (Vars w wx [SegC a b c d]) ∧ Hid (Own1 w wx 1 s3 (PtC (min a c) (min b d))))
  case first =>
    go_region_held3 (fun w' => w'.cell? ⟨w.heap.size, 0, none⟩ = some (.int .i64 a) ∧ w'.cell? ⟨w.heap.size, 1, none⟩ = some (.int .i64 b) ∧ w'.cell? ⟨w.heap.size, 2, none⟩ = some (.int .i64 c) ∧ w'.cell? ⟨w.heap.size, 3, none⟩ = some (.int .i64 d)) (first | with_reducible exact ⟨k0, k1, k2, k3⟩ | with_reducible exact HB9.out.c40 | with_reducible exact (HB9.out.al _).c40 | with_reducible exact HB.out.drew.c40 | with_reducible exact (HB.out.drew.al _).c40 | with_reducible exact (HB.out.al _).drew.c40 | with_reducible exact ((HB9.out.put1 hl9 0 _).put1 hl9 1 _).c40) (first
      | (go_at_call 100; refine (min_bel _ _ _).mono ?_; rintro e w9 ⟨rfl, hb9⟩; have HB9 := Lib.hid (Vars.next (by first | with_reducible exact HB9.out | with_reducible exact HB9.out.al _ | with_reducible exact HB.out.drew | with_reducible exact HB.out.drew.al _ | with_reducible exact (HB.out.al _).drew) hb9); (first | have HQ9 := Lib.hid (HQ9.out.next hb9) | (have HQ9 := Lib.hid ((Vars.of1 _ (PtC 0 0) _).next hb9); have hl9 := HB8.out.more1) | (have HQ9 := Lib.hid ((Vars.of1 _ (PtC 0 0) _).drew.next hb9); have hl9 := HB8.out.more1) | skip); have HB8 := HB9; (first | (have f0 := HQ9.out.frz0 0; have f1 := HQ9.out.frz0 1; have q0 := HQ9.out.cel0 0 rfl; have q1 := HQ9.out.cel0 1 rfl; try simp only [drew_size] at f0 f1 q0 q1) | skip)) | fail)
    all_goals
      go_wp2_with fail
      go_meet
      first
        | exact ⟨Lib.hid (HB9.out.al _), Lib.hid ⟨w9, rfl, HB9.out.more1, Vars.of1 _ _ _⟩⟩
        | exact ⟨Lib.hid ((HB9.out.put1 hl9 0 _).put1 hl9 1 _), Lib.hid ⟨_, rfl, hl9, (HQ9.out.set0 0 _).set0 1 _⟩⟩
  case rest =>
  obtain ⟨HB, HO⟩ := hcut
  obtain ⟨w3, rfl, hl3, hv3⟩ := HO.out
  have HP := Lib.hid hv3
  have HP8 := HP
  clear HO hv3 k0 k1 k2 k3 hl HB8
  obtain ⟨k0, k1, k2, k3⟩ := HB.out.c40
  have hl := HB.out.more1
  have HB8 := HB
  go_upto_region 4 with fail
  go_cut [4] (fun s4 wx => Hid (Vars w wx [SegC a b c d]) ∧ Hid (Vars w3 wx [PtC (min a c) (min b d)]) ∧ Hid (Own1 w wx 1 s4 (PtC (max a c) (max b d))))
  case first =>
    go_region_held3 (fun w' => w'.cell? ⟨w.heap.size, 0, none⟩ = some (.int .i64 a) ∧ w'.cell? ⟨w.heap.size, 1, none⟩ = some (.int .i64 b) ∧ w'.cell? ⟨w.heap.size, 2, none⟩ = some (.int .i64 c) ∧ w'.cell? ⟨w.heap.size, 3, none⟩ = some (.int .i64 d)) (first | with_reducible exact ⟨k0, k1, k2, k3⟩ | with_reducible exact HB9.out.c40 | with_reducible exact (HB9.out.al _).c40 | with_reducible exact HB.out.drew.c40 | with_reducible exact (HB.out.drew.al _).c40 | with_reducible exact (HB.out.al _).drew.c40 | with_reducible exact ((HB9.out.put1 hl9 0 _).put1 hl9 1 _).c40) (first
      | (go_at_call 101; refine (max_bel5 _ _ _).mono ?_; rintro e w9 ⟨rfl, hb9⟩; have HB9 := Lib.hid (Vars.next (by first | with_reducible exact HB9.out | with_reducible exact HB9.out.al _ | with_reducible exact HB.out.drew | with_reducible exact HB.out.drew.al _ | with_reducible exact (HB.out.al _).drew) hb9); have HP9 := Lib.hid (Vars.next (by first | with_reducible exact HP9.out | with_reducible exact HP9.out.al _ | with_reducible exact HP.out.drew | with_reducible exact HP.out.drew.al _ | with_reducible exact (HP.out.al _).drew) hb9); (first | have HQ9 := Lib.hid (HQ9.out.next hb9) | (have HQ9 := Lib.hid ((Vars.of1 _ (PtC 0 0) _).next hb9); have hl9 := HB8.out.more1; have hm9 := HP8.out.more1) | (have HQ9 := Lib.hid ((Vars.of1 _ (PtC 0 0) _).drew.next hb9); have hl9 := HB8.out.more1; have hm9 := HP8.out.more1) | skip); have HB8 := HB9; have HP8 := HP9; (first | (have f0 := HQ9.out.frz0 0; have f1 := HQ9.out.frz0 1; have q0 := HQ9.out.cel0 0 rfl; have q1 := HQ9.out.cel0 1 rfl; try simp only [drew_size] at f0 f1 q0 q1) | skip)) | fail)
    all_goals
      go_wp2_with fail
      go_meet
      first
        | exact ⟨Lib.hid (HB9.out.al _), Lib.hid (HP9.out.al _), Lib.hid ⟨w9, rfl, HB9.out.more1, Vars.of1 _ _ _⟩⟩
        | exact ⟨Lib.hid ((HB9.out.put1 hl9 0 _).put1 hl9 1 _), Lib.hid ((HP9.out.put1 hm9 0 _).put1 hm9 1 _), Lib.hid ⟨_, rfl, hl9, (HQ9.out.set0 0 _).set0 1 _⟩⟩
  case rest =>
  obtain ⟨HB, HP, HO⟩ := hcut
  obtain ⟨w4, rfl, hl4, hv4⟩ := HO.out
  obtain ⟨k0, k1, k2, k3⟩ := HB.out.c40
  obtain ⟨q0, q1⟩ := HP.out.c20
  obtain ⟨q2, q3⟩ := hv4.c20
  clear hv4
  go_wp2
  go_ret
  exact ⟨rfl, HB.out.1⟩
end Go.Proofs.YtkeljibnjpinlaaDoor

/- Segments: the functions of chapter 5 in package impl, by their values. -/
namespace Go.Proofs.YtkeljibnjpinlaaDoor
open Go.ChangeShapes Go.WideShapes Go.ChangeAt Go.RowKit
set_option linter.unusedVariables false

abbrev NoC : Array Value := #[.int .i64 0, .int .i64 0, .int .i64 0, .int .i64 0, .int .i64 0, .int .i64 0, .int .i64 0, .int .i64 0]
theorem assertS_no (w : World) : (Instr.typeAssert (.iface 141 (.agg #[])) 120 94 true).run Tryd.prog w = .ok (.tuple #[.agg NoC, .bool false]) w := by kernel_rfl
theorem assertS_yes (a b c d p q r s : Int) (w : World) : (Instr.typeAssert (.iface 94 (.agg #[.int .i64 a, .int .i64 b, .int .i64 c, .int .i64 d, .int .i64 p, .int .i64 q, .int .i64 r, .int .i64 s])) 120 94 true).run Tryd.prog w = .ok (.tuple #[.agg #[.int .i64 a, .int .i64 b, .int .i64 c, .int .i64 d, .int .i64 p, .int .i64 q, .int .i64 r, .int .i64 s], .bool true]) w := by kernel_rfl
theorem boxS_no (a b c d : Int) (w : World) (hs : isS a b c d = false) :
    Calls Tryd.prog 68 #[SegV a b c d] w fun e w' => e = .returned (.tuple #[.agg NoC, .bool false]) ∧ Below w.heap.size w w' := by
  go_enter Tryd.func68, Tryd.ntmps68
  have ha := assertS_no
  go_wp2_with fail
  refine (outline_no a b c d _ hs).mono ?_
  rintro e w1 ⟨rfl, hb1⟩
  have HB := Lib.hid ((Vars.of2 w (SegC a b c d) NoC 60 94).next hb1)
  clear hb1
  have hB := HB.out.al (.cells NoC 94)
  obtain ⟨k0, k1, k2, k3, k4, k5, k6, k7⟩ := hB.c8 (w.heap.size + 1) 1 rfl rfl
  obtain ⟨f0, f1, f2, f3, f4, f5, f6, f7⟩ := HB.out.fr81
  obtain ⟨g0, g1, g2, g3, g4, g5, g6, g7⟩ := hB.fr81
  have hn : ¬ w.heap.size + 1 = w1.heap.size := by have := HB.out.more2; omega
  go_wp2
  refine bodyPost_ret (v := .tuple #[.agg NoC, .bool false]) (by simp [results, Tryd.results68, go_sem, k0, k1, k2, k3, k4, k5, k6, k7]) rfl ?_
  exact ⟨rfl, hB.set80 (by omega) _ _ _ _ _ _ _ _⟩
theorem boxS_yes (a b c d : Int) (w : World) (hs : isS a b c d = true) :
    Calls Tryd.prog 68 #[SegV a b c d] w fun e w' => e = .returned (.tuple #[.agg (BoxedC a b c d), .bool true]) ∧ Below w.heap.size w w' := by
  go_enter Tryd.func68, Tryd.ntmps68
  have ha := assertS_yes a b c d (min a c) (min b d) (max a c) (max b d)
  go_wp2_with fail
  refine (outline_yes a b c d _ hs).mono ?_
  rintro e w1 ⟨rfl, hb1⟩
  have HB := Lib.hid ((Vars.of2 w (SegC a b c d) NoC 60 94).next hb1)
  clear hb1
  have hB := HB.out.al (.cells (BoxedC a b c d) 94)
  obtain ⟨k0, k1, k2, k3, k4, k5, k6, k7⟩ := hB.c8 (w.heap.size + 1) 1 rfl rfl
  obtain ⟨f0, f1, f2, f3, f4, f5, f6, f7⟩ := HB.out.fr81
  obtain ⟨g0, g1, g2, g3, g4, g5, g6, g7⟩ := hB.fr81
  have hn : ¬ w.heap.size + 1 = w1.heap.size := by have := HB.out.more2; omega
  go_wp2
  refine bodyPost_ret (v := .tuple #[.agg (BoxedC a b c d), .bool true]) (by simp [results, Tryd.results68, go_sem, k0, k1, k2, k3, k4, k5, k6, k7]) rfl ?_
  exact ⟨rfl, hB.set80 (by omega) _ _ _ _ _ _ _ _⟩
/-- A side's mark. -/
def runeV (z : Int) : Int := if z = 1 then 43 else if z = -1 then 45 else 48
theorem markSide_any (a b c d x y : Int) (w : World) :
    Calls Tryd.prog 69 #[SegV a b c d, PtV x y] w fun e w' => e = .returned (.int .i32 (runeV (sideV a b c d x y))) ∧ Below w.heap.size w w' := by
  have HB := Lib.hid (Vars.of2 w (SegC a b c d) (PtC x y) 60 33)
  obtain ⟨z, hz⟩ : ∃ z, sideV a b c d x y = z := ⟨_, rfl⟩
  have hc := cmp_bd ((c - a) * (y - b)) ((d - b) * (x - a))
  have hzc : z = 1 ∨ z = 0 ∨ z = -1 := by
    rw [← hz]; unfold sideV; split
    · omega
    · exact .inr (.inl rfl)
  clear hc
  rw [hz]
  go_enter Tryd.func69, Tryd.ntmps69
  go_wp2_with fail
  refine (sideOf_any a b c d x y _).mono ?_
  rw [hz]
  rintro e w1 ⟨rfl, hb1⟩
  have HB1 := Lib.hid (HB.out.next hb1)
  clear hb1 HB hz
  rcases hzc with rfl | rfl | rfl
  all_goals
    go_wp2
    go_ret
    exact ⟨rfl, HB1.out.1⟩
end Go.Proofs.YtkeljibnjpinlaaDoor

/- Segments: IsSegment, IsOn, IsBetween, TurnSegment and the marks, in package impl. -/
namespace Go.Proofs.YtkeljibnjpinlaaDoor
open Go.ChangeShapes Go.WideShapes Go.ChangeAt Go.RowKit
set_option linter.unusedVariables false

theorem markSide_is (a b c d x y k : Int) (w : World) (h : runeV (sideV a b c d x y) = k) :
    Calls Tryd.prog 69 #[SegV a b c d, PtV x y] w fun e w' => e = .returned (.int .i32 k) ∧ Below w.heap.size w w' := by
  subst h; exact markSide_any a b c d x y w
/-- Is the point on the segment, as package impl asks. -/
theorem on_eq {a b c d x y : Int} (hs : isS a b c d = true) : onV a b c d x y = (inB x (min a c) (max a c) && (inB y (min b d) (max b d) && decide (sideV a b c d x y = 0))) := by
  obtain ⟨hA, hC, hne⟩ := isS_at hs
  unfold onV
  rw [hs, Bool.true_and]
  cases h1 : inB x (min a c) (max a c)
  · rw [Bool.false_and]
    refine decide_eq_false fun h => ?_
    obtain ⟨x0, x1, _⟩ := h
    rw [inB_yes x0 x1] at h1; cases h1
  · cases h2 : inB y (min b d) (max b d)
    · rw [Bool.false_and, Bool.and_false]
      refine decide_eq_false fun h => ?_
      obtain ⟨_, _, y0, y1, _⟩ := h
      rw [inB_yes y0 y1] at h2; cases h2
    · obtain ⟨x0, x1⟩ := inB_bd h1
      obtain ⟨y0, y1⟩ := inB_bd h2
      rw [Bool.true_and, Bool.true_and]
      refine decide_eq_decide.2 ?_
      rw [side_sg (isP3_of hA hC (by omega)), sg_zero]
      exact ⟨fun h => h.2.2.2.2, fun h => ⟨x0, x1, y0, y1, h⟩⟩
theorem on_no1 {a b c d x y : Int} (hs : isS a b c d = true) (h : inB x (min a c) (max a c) = false) : onV a b c d x y = false := by rw [on_eq hs, h]; rfl
theorem on_no2 {a b c d x y : Int} (hs : isS a b c d = true) (h : inB y (min b d) (max b d) = false) : onV a b c d x y = false := by rw [on_eq hs, h]; simp
theorem on_by {a b c d x y z : Int} (hs : isS a b c d = true) (h : inB x (min a c) (max a c) = true) (h' : inB y (min b d) (max b d) = true) (hz : sideV a b c d x y = z) : onV a b c d x y = decide (z = 0) := by rw [on_eq hs, h, h', hz]; simp
theorem isOn_any (a b c d x y : Int) (w : World) :
    Calls Tryd.prog 41 #[SegV a b c d, PtV x y] w fun e w' => e = .returned (.bool (onV a b c d x y)) ∧ Below w.heap.size w w' := by
  cases hs : isS a b c d
  · have HO := Lib.hid (onV_no (x := x) (y := y) hs)
    go_enter Tryd.func41, Tryd.ntmps41
    go_wp2_with fail
    refine (boxS_no a b c d _ hs).mono ?_
    rintro e w1 ⟨rfl, hb1⟩
    have HB := Lib.hid (((Vars.of2 w (SegC a b c d) (PtC x y) 60 33).next hb1).al (.cells NoC 94))
    clear hb1
    go_wp2
    go_ret
    exact ⟨ret_eq HO.out.symm, HB.out.1⟩
  · go_enter Tryd.func41, Tryd.ntmps41
    go_upto_region 4 with fail
    refine (boxS_yes a b c d _ hs).mono ?_
    rintro e w1 ⟨rfl, hb1⟩
    have HB := Lib.hid (((Vars.of2 w (SegC a b c d) (PtC x y) 60 33).next hb1).al (.cells (BoxedC a b c d) 94))
    clear hb1
    go_upto_region 4 with fail
    go_cut [7, 8] (fun s7 s8 wx => ∃ b7 b8 : Nat, s7 = .pointer (some ⟨b7, 0, none⟩) ∧ s8 = .pointer (some ⟨b8, 0, none⟩) ∧ Hid (Vars w wx [SegC a b c d, PtC x y]) ∧
      wx.cell? ⟨b7, 0, none⟩ = some (.int .i64 (min a c)) ∧ wx.cell? ⟨b7, 1, none⟩ = some (.int .i64 (min b d)) ∧ wx.cell? ⟨b8, 0, none⟩ = some (.int .i64 (max a c)) ∧ wx.cell? ⟨b8, 1, none⟩ = some (.int .i64 (max b d)))
    case first =>
      go_region
      all_goals
        go_wp2_with fail
        go_meet
        refine ⟨_, _, rfl, rfl, Lib.hid (((HB.out.al _).al _).drew), ?_, ?_, ?_, ?_⟩ <;> simp [go_sem]
    case rest =>
    obtain ⟨b7, b8, rfl, rfl, HB1, q0, q1, q2, q3⟩ := hcut
    clear HB
    obtain ⟨k0, k1, k2, k3, k4, k5⟩ := HB1.out.c42p
    go_wp2_with fail
    cases h1 : inB x (min a c) (max a c)
    · have HO := Lib.hid (on_no1 (y := y) hs h1)
      refine (in_is _ _ _ _ _ h1).mono ?_
      rintro e w' ⟨rfl, rfl⟩
      go_wp2
      go_ret
      exact ⟨ret_eq HO.out.symm, HB1.out.1⟩
    · refine (in_is _ _ _ _ _ h1).mono ?_
      rintro e w' ⟨rfl, rfl⟩
      go_wp2_with fail
      cases h2 : inB y (min b d) (max b d)
      · have HO := Lib.hid (on_no2 (x := x) hs h2)
        refine (in_is _ _ _ _ _ h2).mono ?_
        rintro e w' ⟨rfl, rfl⟩
        go_wp2
        go_ret
        exact ⟨ret_eq HO.out.symm, HB1.out.1⟩
      · refine (in_is _ _ _ _ _ h2).mono ?_
        rintro e w' ⟨rfl, rfl⟩
        obtain ⟨z, hz⟩ : ∃ z, sideV a b c d x y = z := ⟨_, rfl⟩
        have HO := Lib.hid (on_by hs h1 h2 hz)
        have hzc := sides3 a b c d x y
        rw [hz] at hzc
        rcases hzc with rfl | rfl | rfl
        all_goals
          have HZ := Lib.hid hz
          clear hz h1 h2 hs
          go_wp2_with fail
          refine (markSide_is a b c d x y _ _ (by rw [HZ.out])).mono ?_
          rintro e w2 ⟨rfl, hb2⟩
          have HB2 := Lib.hid (HB1.out.next hb2)
          clear hb2
          go_wp2
          go_ret
          exact ⟨ret_eq (by rw [HO.out] <;> rfl), HB2.out.1⟩
theorem turn_any (a b c d : Int) (w : World) :
    Calls Tryd.prog 81 #[SegV a b c d] w fun e w' => e = .returned (SegV c d a b) ∧ Below w.heap.size w w' := by
  go_enter Tryd.func81, Tryd.ntmps81
  go_wp2
  refine bodyPost_ret (v := SegV c d a b) (by simp [results, Tryd.results81, go_sem]) rfl ⟨rfl, ?_⟩
  exact (Vars.of2 w (SegC a b c d) (SegC c d a b) 60 60).1
end Go.Proofs.YtkeljibnjpinlaaDoor

/- Segments: the box that two boxes share, in package impl. -/
namespace Go.Proofs.YtkeljibnjpinlaaDoor
open Go.ChangeShapes Go.WideShapes Go.ChangeAt Go.RowKit
set_option linter.unusedVariables false

/-- What two boxes share. -/
def shOut (a b c d p q r s : Int) : Value := if min c r < max a p ∨ min d s < max b q then .tuple #[SegV 0 0 0 0, .bool false] else .tuple #[SegV (max a p) (max b q) (min c r) (min d s), .bool true]
theorem shOut_no {a b c d p q r s : Int} (h : min c r < max a p ∨ min d s < max b q) : shOut a b c d p q r s = .tuple #[SegV 0 0 0 0, .bool false] := by unfold shOut; rw [if_pos h]
theorem shOut_yes {a b c d p q r s : Int} (h : ¬ (min c r < max a p ∨ min d s < max b q)) : shOut a b c d p q r s = .tuple #[SegV (max a p) (max b q) (min c r) (min d s), .bool true] := by unfold shOut; rw [if_neg h]
theorem ret_val {u v : Value} (h : u = v) : Ending.returned u = .returned v := by rw [h]
set_option maxHeartbeats 4000000 in
theorem shared_walk (a b c d p q r s : Int) (w : World) (hk : (min c r < max a p ∨ min d s < max b q) ∨ ¬ (min c r < max a p ∨ min d s < max b q)) :
    Calls Tryd.prog 86 #[SegV a b c d, SegV p q r s] w fun e w' => e = .returned (shOut a b c d p q r s) ∧ Below w.heap.size w w' := by
  have HB := Lib.hid (Vars.of3 w (SegC a b c d) (SegC p q r s) (SegC 0 0 0 0) 92 92 92)
  go_enter Tryd.func86, Tryd.ntmps86
  go_upto_region 1 with fail
  generalize (((w.alloc (.cells (SegC a b c d) 92)).alloc (.cells (SegC p q r s) 92)).alloc (.cells (SegC 0 0 0 0) 92)) = wz at HB ⊢
  obtain ⟨k0, k1, k2, k3, k4, k5, k6, k7⟩ := HB.out.c44
  have hl := HB.out.more3
  have HB8 := HB
  go_upto_region 1 with fail
  go_cut [6] (fun s6 wx => Hid (Vars w wx [SegC a b c d, SegC p q r s, SegC 0 0 0 0]) ∧ Hid (Own1 w wx 3 s6 (PtC (max a p) (max b q))))
  case first =>
    go_region_held3 (fun w' => w'.cell? ⟨w.heap.size, 0, none⟩ = some (.int .i64 a) ∧ w'.cell? ⟨w.heap.size, 1, none⟩ = some (.int .i64 b) ∧ w'.cell? ⟨w.heap.size, 2, none⟩ = some (.int .i64 c) ∧ w'.cell? ⟨w.heap.size, 3, none⟩ = some (.int .i64 d) ∧ w'.cell? ⟨w.heap.size + 1, 0, none⟩ = some (.int .i64 p) ∧ w'.cell? ⟨w.heap.size + 1, 1, none⟩ = some (.int .i64 q) ∧ w'.cell? ⟨w.heap.size + 1, 2, none⟩ = some (.int .i64 r) ∧ w'.cell? ⟨w.heap.size + 1, 3, none⟩ = some (.int .i64 s)) (first | with_reducible exact ⟨k0, k1, k2, k3, k4, k5, k6, k7⟩ | with_reducible exact HB9.out.c44 | with_reducible exact (HB9.out.al _).c44 | with_reducible exact HB.out.drew.c44 | with_reducible exact (HB.out.drew.al _).c44 | with_reducible exact (HB.out.al _).drew.c44 | with_reducible exact ((HB9.out.put3 hl9 0 _).put3 hl9 1 _).c44) (first
      | (go_at_call 101; refine (max_bel5 _ _ _).mono ?_; rintro e w9 ⟨rfl, hb9⟩; have HB9 := Lib.hid (Vars.next (by first | with_reducible exact HB9.out | with_reducible exact HB9.out.al _ | with_reducible exact HB.out.drew | with_reducible exact HB.out.drew.al _ | with_reducible exact (HB.out.al _).drew) hb9); (first | have HQ9 := Lib.hid (HQ9.out.next hb9) | (have HQ9 := Lib.hid ((Vars.of1 _ (PtC 0 0) _).next hb9); have hl9 := HB8.out.more3) | (have HQ9 := Lib.hid ((Vars.of1 _ (PtC 0 0) _).drew.next hb9); have hl9 := HB8.out.more3) | skip); have HB8 := HB9; (first | (have f0 := HQ9.out.frz0 0; have f1 := HQ9.out.frz0 1; have q0 := HQ9.out.cel0 0 rfl; have q1 := HQ9.out.cel0 1 rfl; try simp only [drew_size] at f0 f1 q0 q1) | skip)) | fail)
    all_goals
      go_wp2_with fail
      go_meet
      first
        | exact ⟨Lib.hid (HB9.out.al _), Lib.hid ⟨w9, rfl, HB9.out.more3, Vars.of1 _ _ _⟩⟩
        | exact ⟨Lib.hid ((HB9.out.put3 hl9 0 _).put3 hl9 1 _), Lib.hid ⟨_, rfl, hl9, (HQ9.out.set0 0 _).set0 1 _⟩⟩
  case rest =>
  obtain ⟨HB, HO⟩ := hcut
  obtain ⟨w3, rfl, hl3, hv3⟩ := HO.out
  have HP := Lib.hid hv3
  have HP8 := HP
  clear HO hv3 k0 k1 k2 k3 k4 k5 k6 k7 hl HB8
  obtain ⟨k0, k1, k2, k3, k4, k5, k6, k7⟩ := HB.out.c44
  have hl := HB.out.more3
  have HB8 := HB
  go_upto_region 2 with fail
  go_cut [7] (fun s7 wx => Hid (Vars w wx [SegC a b c d, SegC p q r s, SegC 0 0 0 0]) ∧ Hid (Vars w3 wx [PtC (max a p) (max b q)]) ∧ Hid (Own1 w wx 3 s7 (PtC (min c r) (min d s))))
  case first =>
    go_region_held3 (fun w' => w'.cell? ⟨w.heap.size, 0, none⟩ = some (.int .i64 a) ∧ w'.cell? ⟨w.heap.size, 1, none⟩ = some (.int .i64 b) ∧ w'.cell? ⟨w.heap.size, 2, none⟩ = some (.int .i64 c) ∧ w'.cell? ⟨w.heap.size, 3, none⟩ = some (.int .i64 d) ∧ w'.cell? ⟨w.heap.size + 1, 0, none⟩ = some (.int .i64 p) ∧ w'.cell? ⟨w.heap.size + 1, 1, none⟩ = some (.int .i64 q) ∧ w'.cell? ⟨w.heap.size + 1, 2, none⟩ = some (.int .i64 r) ∧ w'.cell? ⟨w.heap.size + 1, 3, none⟩ = some (.int .i64 s)) (first | with_reducible exact ⟨k0, k1, k2, k3, k4, k5, k6, k7⟩ | with_reducible exact HB9.out.c44 | with_reducible exact (HB9.out.al _).c44 | with_reducible exact HB.out.drew.c44 | with_reducible exact (HB.out.drew.al _).c44 | with_reducible exact (HB.out.al _).drew.c44 | with_reducible exact ((HB9.out.put3 hl9 0 _).put3 hl9 1 _).c44) (first
      | (go_at_call 100; refine (min_bel _ _ _).mono ?_; rintro e w9 ⟨rfl, hb9⟩; have HB9 := Lib.hid (Vars.next (by first | with_reducible exact HB9.out | with_reducible exact HB9.out.al _ | with_reducible exact HB.out.drew | with_reducible exact HB.out.drew.al _ | with_reducible exact (HB.out.al _).drew) hb9); have HP9 := Lib.hid (Vars.next (by first | with_reducible exact HP9.out | with_reducible exact HP9.out.al _ | with_reducible exact HP.out.drew | with_reducible exact HP.out.drew.al _ | with_reducible exact (HP.out.al _).drew) hb9); (first | have HQ9 := Lib.hid (HQ9.out.next hb9) | (have HQ9 := Lib.hid ((Vars.of1 _ (PtC 0 0) _).next hb9); have hl9 := HB8.out.more3; have hm9 := HP8.out.more1) | (have HQ9 := Lib.hid ((Vars.of1 _ (PtC 0 0) _).drew.next hb9); have hl9 := HB8.out.more3; have hm9 := HP8.out.more1) | skip); have HB8 := HB9; have HP8 := HP9; (first | (have f0 := HQ9.out.frz0 0; have f1 := HQ9.out.frz0 1; have q0 := HQ9.out.cel0 0 rfl; have q1 := HQ9.out.cel0 1 rfl; try simp only [drew_size] at f0 f1 q0 q1) | skip)) | fail)
    all_goals
      go_wp2_with fail
      go_meet
      first
        | exact ⟨Lib.hid (HB9.out.al _), Lib.hid (HP9.out.al _), Lib.hid ⟨w9, rfl, HB9.out.more3, Vars.of1 _ _ _⟩⟩
        | exact ⟨Lib.hid ((HB9.out.put3 hl9 0 _).put3 hl9 1 _), Lib.hid ((HP9.out.put1 hm9 0 _).put1 hm9 1 _), Lib.hid ⟨_, rfl, hl9, (HQ9.out.set0 0 _).set0 1 _⟩⟩
  case rest =>
  obtain ⟨HB, HP, HO⟩ := hcut
  obtain ⟨w4, rfl, hl4, hv4⟩ := HO.out
  obtain ⟨q0, q1⟩ := HP.out.c20
  obtain ⟨q2, q3⟩ := hv4.c20
  obtain ⟨f0, f1, f2, f3⟩ := HB.out.fr42
  obtain ⟨j0, j1, j2, j3⟩ := HB.out.c42
  clear hv4 k0 k1 k2 k3 k4 k5 k6 k7 hl HB8 HP8
  rcases hk with hk | hk
  · have HK := Lib.hid (shOut_no hk)
    rcases (by omega : min c r < max a p ∨ (¬ min c r < max a p ∧ min d s < max b q)) with h1 | ⟨h1, h2⟩
    all_goals
      clear hk
      go_wp2
      refine bodyPost_ret (v := .tuple #[SegV 0 0 0 0, .bool false]) (by simp [results, Tryd.results86, go_sem, j0, j1, j2, j3]) rfl ?_
      exact ⟨ret_val HK.out.symm, HB.out.set40 (by omega) _ _ _ _⟩
  · have h1 : ¬ min c r < max a p := fun h => hk (.inl h)
    have h2 : ¬ min d s < max b q := fun h => hk (.inr h)
    have HK := Lib.hid (shOut_yes hk)
    clear hk
    go_wp2
    refine bodyPost_ret (v := .tuple #[SegV (max a p) (max b q) (min c r) (min d s), .bool true]) (by simp [results, Tryd.results86, go_sem, j0, j1, j2, j3]) rfl ?_
    exact ⟨ret_val HK.out.symm, HB.out.set40 (by omega) _ _ _ _⟩
theorem shared_no (a b c d p q r s : Int) (w : World) (hk : min c r < max a p ∨ min d s < max b q) :
    Calls Tryd.prog 86 #[SegV a b c d, SegV p q r s] w fun e w' => e = .returned (.tuple #[SegV 0 0 0 0, .bool false]) ∧ Below w.heap.size w w' :=
  (shared_walk a b c d p q r s w (.inl hk)).mono fun e w' h => ⟨by rw [← shOut_no hk]; exact h.1, h.2⟩
theorem shared_yes (a b c d p q r s : Int) (w : World) (hk : ¬ (min c r < max a p ∨ min d s < max b q)) :
    Calls Tryd.prog 86 #[SegV a b c d, SegV p q r s] w fun e w' => e = .returned (.tuple #[SegV (max a p) (max b q) (min c r) (min d s), .bool true]) ∧ Below w.heap.size w w' :=
  (shared_walk a b c d p q r s w (.inr hk)).mono fun e w' h => ⟨by rw [← shOut_yes hk]; exact h.1, h.2⟩
end Go.Proofs.YtkeljibnjpinlaaDoor

/- Segments: the marks of ends, and how two segments meet, in package impl. -/
namespace Go.Proofs.YtkeljibnjpinlaaDoor
open Go.ChangeShapes Go.WideShapes Go.ChangeAt Go.RowKit
set_option linter.unusedVariables false

abbrev MkV (m n : Int) : Value := .agg #[.int .i32 m, .int .i32 n]
abbrev MkC (m n : Int) : Array Value := #[.int .i32 m, .int .i32 n]
set_option maxHeartbeats 4000000 in
theorem markEnds_any (a b c d p q r s : Int) (w : World) :
    Calls Tryd.prog 87 #[SegV a b c d, SegV p q r s] w fun e w' => e = .returned (MkV (runeV (sideV a b c d p q)) (runeV (sideV a b c d r s))) ∧ Below w.heap.size w w' := by
  have HB := Lib.hid (Vars.of3 w (SegC a b c d) (SegC p q r s) (MkC 0 0) 60 60 124)
  obtain ⟨m, hm⟩ : ∃ m, runeV (sideV a b c d p q) = m := ⟨_, rfl⟩
  obtain ⟨n, hn⟩ : ∃ n, runeV (sideV a b c d r s) = n := ⟨_, rfl⟩
  have HM := Lib.hid hm
  have HN := Lib.hid hn
  rw [hm, hn]
  clear hm hn
  go_enter Tryd.func87, Tryd.ntmps87
  go_upto_region 1 with fail
  generalize (((w.alloc (.cells (SegC a b c d) 60)).alloc (.cells (SegC p q r s) 60)).alloc (.cells (MkC 0 0) 124)) = wz at HB ⊢
  obtain ⟨k0, k1, k2, k3, k4, k5, k6, k7⟩ := HB.out.c44
  obtain ⟨j0, j1⟩ := HB.out.c2 (w.heap.size + 1 + 1) 2 rfl rfl
  have j2 := HB.out.frozen (w.heap.size + 1 + 1) 2 0 rfl rfl
  have j3 := HB.out.frozen (w.heap.size + 1 + 1) 2 1 rfl rfl
  go_region_held3 (fun w' => w'.cell? ⟨w.heap.size, 0, none⟩ = some (.int .i64 a) ∧ w'.cell? ⟨w.heap.size, 1, none⟩ = some (.int .i64 b) ∧ w'.cell? ⟨w.heap.size, 2, none⟩ = some (.int .i64 c) ∧ w'.cell? ⟨w.heap.size, 3, none⟩ = some (.int .i64 d) ∧ w'.cell? ⟨w.heap.size + 1, 0, none⟩ = some (.int .i64 p) ∧ w'.cell? ⟨w.heap.size + 1, 1, none⟩ = some (.int .i64 q) ∧ w'.cell? ⟨w.heap.size + 1, 2, none⟩ = some (.int .i64 r) ∧ w'.cell? ⟨w.heap.size + 1, 3, none⟩ = some (.int .i64 s)) (first | with_reducible exact ⟨k0, k1, k2, k3, k4, k5, k6, k7⟩ | with_reducible exact HB9.out.c44 | with_reducible exact HB.out.drew.c44 | (have hp9 : w.heap.size + 2 ≤ w.heap.size + 1 + 1 := Nat.le_refl _; with_reducible exact ((HB7.out.put2 hp9 0 _).put2 hp9 1 _).c44)) (first
    | (go_at_call 69; refine (markSide_is _ _ _ _ _ _ _ _ (by first | exact HM.out | exact HN.out)).mono ?_; rintro e w9 ⟨rfl, hb9⟩; have HB9 := Lib.hid (Vars.next (by first | with_reducible exact HB9.out | with_reducible exact HB.out.drew) hb9); have HB7 := Lib.hid (Vars.first2 HB9.out); obtain ⟨j0, j1⟩ := HB9.out.c2 (w.heap.size + 1 + 1) 2 rfl rfl; have j2 := HB9.out.frozen (w.heap.size + 1 + 1) 2 0 rfl rfl; have j3 := HB9.out.frozen (w.heap.size + 1 + 1) 2 1 rfl rfl) | fail)
  all_goals
    go_wp2
    refine bodyPost_ret (v := MkV m n) (by simp [results, Tryd.results87, go_sem, j0, j1]) rfl ?_
    exact ⟨rfl, HB9.out.set20 (by omega) _ _⟩
theorem oneLine_any (a b c d : Int) (w : World) :
    Calls Tryd.prog 88 #[SegV a b c d] w fun e w' => e = .returned (.int .i64 (if a = c ∧ b = d then 1 else 3)) ∧ Below w.heap.size w w' := by
  have HB := Lib.hid (Vars.of1 w (SegC a b c d) 92)
  by_cases h1 : a = c
  · subst h1
    by_cases h2 : b = d
    · subst h2
      go_enter Tryd.func88, Tryd.ntmps88
      go_wp2
      go_ret
      exact ⟨by simp, HB.out.1⟩
    · have HE : Hid ((if a = a ∧ b = d then (1 : Int) else 3) = 3) := Lib.hid (if_neg (by omega))
      go_enter Tryd.func88, Tryd.ntmps88
      go_wp2
      go_ret
      exact ⟨by simp, HB.out.1⟩
  · go_enter Tryd.func88, Tryd.ntmps88
    go_wp2
    go_ret
    exact ⟨by simp, HB.out.1⟩
/-- How two segments meet, by marks. -/
def markW (m n u v : Int) : Int := if m = n ∨ u = v then 0 else if m = 48 ∨ n = 48 ∨ u = 48 ∨ v = 48 then 1 else 2
theorem markW_eq {f g u v : Int} (hf : f = 1 ∨ f = 0 ∨ f = -1) (hg : g = 1 ∨ g = 0 ∨ g = -1) (hu : u = 1 ∨ u = 0 ∨ u = -1) (hv : v = 1 ∨ v = 0 ∨ v = -1) : markW (runeV f) (runeV g) (runeV u) (runeV v) = markV f g u v := by
  rcases hf with rfl | rfl | rfl <;> rcases hg with rfl | rfl | rfl <;> rcases hu with rfl | rfl | rfl <;> rcases hv with rfl | rfl | rfl <;> decide
set_option maxRecDepth 100000 in
theorem byMarks_any (m n u v : Int) (w : World) :
    Calls Tryd.prog 89 #[MkV m n, MkV u v] w fun e w' => e = .returned (.int .i64 (markW m n u v)) ∧ Below w.heap.size w w' := by
  have HB := Lib.hid (Vars.of2 w (MkC m n) (MkC u v) 124 124)
  by_cases h1 : m = n
  · have HE : Hid (markW m n u v = 0) := Lib.hid (by unfold markW; rw [if_pos (.inl h1)])
    subst h1
    go_enter Tryd.func89, Tryd.ntmps89
    go_wp2
    go_ret
    exact ⟨ret_int HE.out.symm, HB.out.1⟩
  · by_cases h2 : u = v
    · have HE : Hid (markW m n u v = 0) := Lib.hid (by unfold markW; rw [if_pos (.inr h2)])
      subst h2
      go_enter Tryd.func89, Tryd.ntmps89
      go_wp2
      go_ret
      exact ⟨ret_int HE.out.symm, HB.out.1⟩
    · have HE : Hid (markW m n u v = if m = 48 ∨ n = 48 ∨ u = 48 ∨ v = 48 then 1 else 2) := Lib.hid (by unfold markW; rw [if_neg (by omega)])
      have b1 : (m == n) = false := by simpa using h1
      have b2 : (u == v) = false := by simpa using h2
      have i0 : ∀ w : World, (Instr.index 142 (.agg #[.int .i32 m, .int .i32 n, .int .i32 u, .int .i32 v]) (.int .i64 0)).run Tryd.prog w = .ok (.int .i32 m) w := fun _ => by kernel_rfl
      have i1 : ∀ w : World, (Instr.index 142 (.agg #[.int .i32 m, .int .i32 n, .int .i32 u, .int .i32 v]) (.int .i64 1)).run Tryd.prog w = .ok (.int .i32 n) w := fun _ => by kernel_rfl
      have i2 : ∀ w : World, (Instr.index 142 (.agg #[.int .i32 m, .int .i32 n, .int .i32 u, .int .i32 v]) (.int .i64 2)).run Tryd.prog w = .ok (.int .i32 u) w := fun _ => by kernel_rfl
      have i3 : ∀ w : World, (Instr.index 142 (.agg #[.int .i32 m, .int .i32 n, .int .i32 u, .int .i32 v]) (.int .i64 3)).run Tryd.prog w = .ok (.int .i32 v) w := fun _ => by kernel_rfl
      go_enter Tryd.func89, Tryd.ntmps89
      go_wp2
      go_loopg [6, 28] 4 (fun g s6 i wr => ∃ k : Nat, k + g = 4 ∧ i = .int .i64 k ∧ (∃ z : Value, s6 = z) ∧ Hid ((1 ≤ k → ¬ m = 48) ∧ (2 ≤ k → ¬ n = 48) ∧ (3 ≤ k → ¬ u = 48) ∧ (4 ≤ k → ¬ v = 48)) ∧ Below w.heap.size w wr)
      case atStart => exact ⟨0, by omega, rfl, ⟨_, rfl⟩, Lib.hid (by omega), HB.out.1⟩
      case round =>
        obtain ⟨k, hkg, rfl, ⟨z, rfl⟩, HI, hb⟩ := hrel
        rcases (by omega : k = 0 ∨ k = 1 ∨ k = 2 ∨ k = 3 ∨ k = 4) with rfl | rfl | rfl | rfl | rfl
        · obtain rfl : gk = 4 := by omega
          by_cases h : m = 48
          · have HF : Hid (markW m n u v = 1) := Lib.hid (by rw [HE.out, if_pos (by omega)])
            clear HE HI
            subst h
            go_wp2
            go_ret
            exact ⟨ret_int HF.out.symm, hb⟩
          · go_wp2
            go_roundg 3
            case measure => omega
            case rel => exact ⟨1, by omega, by go_num, ⟨_, rfl⟩, Lib.hid (by omega), hb⟩
        · obtain rfl : gk = 3 := by omega
          by_cases h : n = 48
          · have HF : Hid (markW m n u v = 1) := Lib.hid (by rw [HE.out, if_pos (by omega)])
            clear HE HI
            subst h
            go_wp2
            go_ret
            exact ⟨ret_int HF.out.symm, hb⟩
          · have hi := HI.out.1 (by omega)
            go_wp2
            go_roundg 2
            case measure => omega
            case rel => exact ⟨2, by omega, by go_num, ⟨_, rfl⟩, Lib.hid (by omega), hb⟩
        · obtain rfl : gk = 2 := by omega
          by_cases h : u = 48
          · have HF : Hid (markW m n u v = 1) := Lib.hid (by rw [HE.out, if_pos (by omega)])
            clear HE HI
            subst h
            go_wp2
            go_ret
            exact ⟨ret_int HF.out.symm, hb⟩
          · have hi := HI.out.1 (by omega)
            have hj := HI.out.2.1 (by omega)
            go_wp2
            go_roundg 1
            case measure => omega
            case rel => exact ⟨3, by omega, by go_num, ⟨_, rfl⟩, Lib.hid (by omega), hb⟩
        · obtain rfl : gk = 1 := by omega
          by_cases h : v = 48
          · have HF : Hid (markW m n u v = 1) := Lib.hid (by rw [HE.out, if_pos (by omega)])
            clear HE HI
            subst h
            go_wp2
            go_ret
            exact ⟨ret_int HF.out.symm, hb⟩
          · have hi := HI.out.1 (by omega)
            have hj := HI.out.2.1 (by omega)
            have hk := HI.out.2.2.1 (by omega)
            go_wp2
            go_roundg 0
            case measure => omega
            case rel => exact ⟨4, by omega, by go_num, ⟨_, rfl⟩, Lib.hid (by omega), hb⟩
        · obtain rfl : gk = 0 := by omega
          have HF : Hid (markW m n u v = 2) := Lib.hid (by
            have h0 := HI.out.1 (by omega)
            have h1 := HI.out.2.1 (by omega)
            have h2 := HI.out.2.2.1 (by omega)
            have h3 := HI.out.2.2.2 (by omega)
            rw [HE.out, if_neg (by omega)])
          clear HE HI
          go_wp2
          go_ret
          exact ⟨ret_int HF.out.symm, hb⟩
end Go.Proofs.YtkeljibnjpinlaaDoor
