/- The model's draws of rings. -/
import Derived.Test.YtbnjaaegbmhopaaGreatDoorDrawLine2
import Derived.Test.YtbnjaaegbmhopaaGreatDoorRingV
import Derived.Test.YtbnjaaegbmhopaaGreatDoorStepE
namespace Go.Proofs.YtbnjaaegbmhopaaGreatDoor
open Go.ChangeShapes Go.WideShapes Go.ChangeAt Go.RowKit
set_option linter.unusedVariables false

/-- A cursor p behind what a call has made. -/
def CurG (p : Nat) (w0 w : World) : Prop := p < w0.heap.size ∧ Cur w p ∧ w0.grownBy w (some p)
section
variable {p : Nat} {w0 w w' : World}
theorem CurG.start (h : Cur w p) : CurG p w w := ⟨cur_lt h, h, grown_refl _ _⟩
theorem CurG.next (h : CurG p w0 w) (hc : Cur w' p) (hg : w.grownBy w' (some p)) : CurG p w0 w' := ⟨h.1, hc, grown_trans h.2.2 hg⟩
theorem CurG.bel (h : CurG p w0 w) (hb : Below w.heap.size w w') : CurG p w0 w' := ⟨h.1, cur_below h.2.1 hb (Nat.lt_of_lt_of_le h.1 h.2.2.size), grownB h.2.2 hb h.2.2.size⟩
theorem CurG.lits (h : CurG p w0 w) (L : List (Int × Int)) (n : Nat) (cs : Array Value) (hn : L.length = n) (hcs : cs.toList = cellsE encPoint L) (hm : n ≤ 100) : Rowed p w0 (w.alloc (.cells cs 33)) (.slice (some ⟨w.heap.size, 0, none⟩) n n) L := by
  subst hn
  refine ⟨h.1, cur_alloc h.2.1 _, grown_alloc h.2.2 _, ?_⟩
  have hsz : cs.size = L.length * 2 := by rw [← Array.length_toList, hcs]; exact cellsE_len elPoint L
  have := World.ownsRow_lit (base := w0.heap.size) (e := 33) (size := 2) w cs L.length h.2.2.size (by unfold maxLen; omega) hsz
  unfold OwnE
  rw [← hcs]; exact this
end
theorem SeesE.suf' {α : Type} {n : Nat} {enc : α → List Value} {w : World} {B : Nat} {A : Option Addr} {l : List α} (h : SeesE n enc w B A l) (j : Nat) (A' : Option Addr) (hA : j < l.length → A' = A.map (·.add (j * n))) : SeesE n enc w B A' (l.drop j) := by
  have := h.cut j (l.length - j) A' hA
  rwa [List.take_of_length_le (by simp)] at this
theorem l7P_any (x y : Int) (w : World) :
    Calls Tryz.prog 114 #[.int .i64 x, .int .i64 y] w fun e w' => e = .returned (PtV x y) ∧ Below w.heap.size w w' := by
  go_enter Tryz.func114, Tryz.ntmps114
  go_wp2
  refine bodyPost_ret (v := PtV x y) (by simp [results, Tryz.results114, go_sem]) rfl ⟨rfl, ?_⟩
  exact (Below.refl _ _).alloc (Nat.le_refl _) _
/-- A shape was drawn. -/
def DShp (p : Nat) (w : World) (e : Ending) (w' : World) : Prop :=
  ∃ A c l, e = .returned (.slice A l.length c) ∧ ShP l ∧ Rowed p w w' (.slice A l.length c) l
set_option maxRecDepth 100000 in
set_option maxHeartbeats 4000000 in
theorem l7Draw_any (p : Nat) (w : World) (hc : Cur w p) :
    Calls Tryz.prog 74 #[.pointer (some ⟨p, 0, none⟩)] w (DShp p w) := by
  have HR := Lib.hid (CurG.start hc)
  clear hc
  go_enter Tryz.func74, Tryz.ntmps74
  go_wp2_with fail
  refine (below_any p 8 _ (by decide) (by decide) HR.out.2.1).mono ?_
  rintro e w1 ⟨⟨x, x0, x1, rfl⟩, hc1, hg1⟩
  have HR := Lib.hid (HR.out.next hc1 hg1)
  clear hc1 hg1
  go_wp2_with fail
  refine (below_any p 8 _ (by decide) (by decide) HR.out.2.1).mono ?_
  rintro e w2 ⟨⟨y, y0, y1, rfl⟩, hc1, hg1⟩
  have HR := Lib.hid (HR.out.next hc1 hg1)
  clear hc1 hg1
  go_wp2_with fail
  refine (below_any p 6 _ (by decide) (by decide) HR.out.2.1).mono ?_
  rintro e w3 ⟨⟨u, u0, u1, rfl⟩, hc1, hg1⟩
  have HR := Lib.hid (HR.out.next hc1 hg1)
  clear hc1 hg1
  have hu : IntKind.i64.wrap (2 + u) = 2 + u := IntWalk.i64_in _ (by omega)
  obtain ⟨W, hW⟩ : ∃ W, 2 + u = W := ⟨_, rfl⟩
  have hW2 : 2 ≤ W ∧ W ≤ 7 := by omega
  go_wp2_with fail
  refine (below_any p 6 _ (by decide) (by decide) HR.out.2.1).mono ?_
  rintro e w4 ⟨⟨v, v0, v1, rfl⟩, hc1, hg1⟩
  have HR := Lib.hid (HR.out.next hc1 hg1)
  clear hc1 hg1
  have hv : IntKind.i64.wrap (2 + v) = 2 + v := IntWalk.i64_in _ (by omega)
  obtain ⟨V, hV⟩ : ∃ V, 2 + v = V := ⟨_, rfl⟩
  have hV2 : 2 ≤ V ∧ V ≤ 7 := by omega
  go_wp2_with fail
  refine (below_any p 4 _ (by decide) (by decide) HR.out.2.1).mono ?_
  rintro e w5 ⟨⟨k, k0, k1, rfl⟩, hc1, hg1⟩
  have HR := Lib.hid (HR.out.next hc1 hg1)
  clear hc1 hg1
  rcases (by omega : k = 0 ∨ k = 1 ∨ k = 2 ∨ k = 3) with rfl | rfl | rfl | rfl
  · go_wp2_with (go_at_call 114; refine (l7P_any _ _ _).mono ?_; rintro e w9 ⟨rfl, hb9⟩; have HR := Lib.hid (HR.out.bel hb9); clear hb9)
    go_ret
    exact ⟨_, _, [(x, y), (x + W, y), (x + W, y + V), (x, y + V)], rfl, ⟨x, y, W, V, hW2, hV2, .inl rfl⟩, HR.out.lits _ 4 _ rfl rfl (by decide)⟩
  · go_wp2_with (go_at_call 114; refine (l7P_any _ _ _).mono ?_; rintro e w9 ⟨rfl, hb9⟩; have HR := Lib.hid (HR.out.bel hb9); clear hb9)
    go_ret
    exact ⟨_, _, [(x, y), (x + W, y), (x, y + V)], rfl, ⟨x, y, W, V, hW2, hV2, .inr (.inl rfl)⟩, HR.out.lits _ 3 _ rfl rfl (by decide)⟩
  · go_wp2_with (go_at_call 114; refine (l7P_any _ _ _).mono ?_; rintro e w9 ⟨rfl, hb9⟩; have HR := Lib.hid (HR.out.bel hb9); clear hb9)
    go_ret
    exact ⟨_, _, [(x, y), (x + 2 * W, y), (x + 2 * W, y + V), (x + W, y + V), (x + W, y + 2 * V), (x, y + 2 * V)], rfl, ⟨x, y, W, V, hW2, hV2, .inr (.inr (.inl rfl))⟩, HR.out.lits _ 6 _ rfl rfl (by decide)⟩
  · go_wp2_with (go_at_call 114; refine (l7P_any _ _ _).mono ?_; rintro e w9 ⟨rfl, hb9⟩; have HR := Lib.hid (HR.out.bel hb9); clear hb9)
    go_ret
    exact ⟨_, _, [(x, y), (x + W, y + 1), (x + 2 * W, y), (x + W, y + V)], rfl, ⟨x, y, W, V, hW2, hV2, .inr (.inr (.inr rfl))⟩, HR.out.lits _ 4 _ rfl rfl (by decide)⟩
/-- A row of at most 6 points was drawn; it has an area if it is a ring. -/
def RRow (p : Nat) (w : World) (e : Ending) (w' : World) : Prop :=
  ∃ A c l, e = .returned (.slice A l.length c) ∧ 2 ≤ l.length ∧ l.length ≤ 6 ∧ l.length ≤ c ∧ (c : Int) ≤ 9223372036854775807 ∧ Fine l ∧ SeesE 2 encPoint w' w'.heap.size A l ∧ (∀ a, A = some a → w.heap.size ≤ a.block) ∧ Cur w' p ∧ w.grownBy w' (some p)
theorem OwnE.capMax {α : Type} {n : Nat} {enc : α → List Value} {w : World} {B : Nat} {e : TypeId} {A : Option Addr} {m c : Nat} {L : List α} (h : OwnE n enc w B e (.slice A m c) L) : (c : Int) ≤ 9223372036854775807 := by
  obtain ⟨A', c', hv, hc, -⟩ := h.form
  simp only [Value.slice.injEq] at hv
  unfold maxLen at hc
  omega
theorem Rowed.rrow {p : Nat} {w w' : World} {A : Option Addr} {c : Nat} {L : List (Int × Int)} (h : Rowed p w w' (.slice A L.length c) L) (h1 : 2 ≤ L.length) (h2 : L.length ≤ 6) (hf : Fine L) : RRow p w (.returned (.slice A L.length c)) w' :=
  ⟨A, c, L, rfl, h1, h2, h.2.2.2.cap, h.2.2.2.capMax, hf, h.2.2.2.sees elPoint, h.2.2.2.base, h.2.1, h.2.2.1⟩
set_option maxRecDepth 100000 in
set_option maxHeartbeats 4000000 in
theorem l7Any_any (p : Nat) (w : World) (hc : Cur w p) :
    Calls Tryz.prog 43 #[.pointer (some ⟨p, 0, none⟩)] w (RRow p w) := by
  have HC := Lib.hid hc
  have hp := cur_lt hc
  clear hc
  go_enter Tryz.func43, Tryz.ntmps43
  go_wp2_with fail
  refine (l7Draw_any p _ HC.out).mono ?_
  rintro e w1 ⟨A1, c1, L, rfl, hsh, hr1⟩
  have h3 := hsh.len
  have h1 : 1 ≤ L.length := by omega
  have HH := Lib.hid hsh
  have HR1 := Lib.hid hr1
  clear hr1 hsh
  go_wp2_with fail
  refine (below_any p 10 _ (by decide) (by decide) HR1.out.2.1).mono ?_
  rintro e w2 ⟨⟨n, hn0, hn1, rfl⟩, hc2, hg2⟩
  have HR2 := Lib.hid (HR1.out.next hc2 hg2)
  clear hc2 hg2 HR1
  rcases (by omega : n = 0 ∨ n = 1 ∨ n = 2 ∨ 3 ≤ n) with rfl | rfl | rfl | hn
  · obtain ⟨g, rfl, hBg, -, -⟩ := HR2.out.2.2.2.row (by omega)
    go_wp2_with fail
    refine (l4Any_any p _ HR2.out.2.1).mono ?_
    rintro e w3 ⟨⟨u, v, -, -, -, -, rfl⟩, hc3, hg3⟩
    have HR3 := Lib.hid (HR2.out.next hc3 hg3)
    clear hc3 hg3 HR2
    obtain ⟨g', hg', -, -, hr⟩ := HR3.out.2.2.2.row (by omega)
    obtain rfl : g = g' := by simpa using hg'
    obtain ⟨⟨y0, y1⟩, hy⟩ : ∃ y, L[0]? = some y := ⟨_, List.getElem?_eq_getElem (by omega)⟩
    obtain ⟨k0, k1⟩ := rowCellsPoint hr hy
    obtain ⟨f0, f1⟩ := rowFrozenPoint hr 0
    have hset := rowPoint_set hr (j := 0) (by omega) u v
    simp only [Nat.zero_mul, Nat.zero_add] at k0 k1 f0 f1 hset
    have hl0 : (0 : Int) < (L.length : Int) := by omega
    have HS := Lib.hid hset
    have hcap := HR3.out.2.2.2.cap
    have hcm := HR3.out.2.2.2.capMax
    clear hset hr hy hg'
    go_wp2
    go_ret
    have hs := HS.out.own elPoint hBg
    rw [List.length_set] at hs
    have hpg : p < g := by have := hp; omega
    exact ⟨_, c1, L.set 0 (u, v), by rw [List.length_set]; rfl, by rw [List.length_set]; omega, by rw [List.length_set]; omega, by rw [List.length_set]; exact hcap, hcm, HH.out.head u v, hs.sees elPoint, hs.base, cur_set_other (cur_set_other HR3.out.2.1 hpg) hpg, grown_setNew (grown_setNew HR3.out.2.2.1 hBg _ _) hBg _ _⟩
  · obtain ⟨a, b, t, hL⟩ : ∃ a b t, L = a :: b :: t := by
      match L, h3 with
      | a :: b :: t, _ => exact ⟨a, b, t, rfl⟩
    have HLL := Lib.hid hL
    have g0 : L[0]? = some a := by rw [hL]; rfl
    have g1 : L[1]? = some b := by rw [hL]; rfl
    obtain ⟨x0, x1⟩ := a
    obtain ⟨y0, y1⟩ := b
    clear hL
    have hs := HR2.out.2.2.2.sees elPoint
    obtain ⟨bb, off, hA, hbl, -⟩ := hs 0 _ g0
    subst hA
    obtain ⟨q0, q1⟩ := cellsPoint hs g0
    obtain ⟨q2, q3⟩ := cellsPoint hs g1
    simp only [Nat.zero_mul, Nat.add_zero, Nat.one_mul] at q0 q1 q2 q3
    have HT0 := Lib.hid (hs.suf' 2 (some ⟨bb, off + 4, none⟩) (fun _ => by simp [add_none]))
    have hl0 : (0 : Int) < (L.length : Int) := by omega
    have hl1 : (1 : Int) < (L.length : Int) := by omega
    have hl2 : (2 : Int) ≤ (L.length : Int) := by omega
    have hcap := HR2.out.2.2.2.cap
    have hlc2 : (2 : Int) ≤ (c1 : Int) := by omega
    have HT : Hid (SeesE 2 encPoint w2 w2.heap.size (if c1 = 2 then some ⟨bb, off, none⟩ else some ⟨bb, off + 4, none⟩) (L.drop 2)) := Lib.hid (by rw [if_neg (by omega)]; exact HT0.out)
    clear g0 g1 hs
    have hle : w.heap.size ≤ w2.heap.size := HR2.out.2.2.1.size
    have HB1 : Hid (Below w2.heap.size w2 (w2.alloc (.cells #[.int .i64 y0, .int .i64 y1, .int .i64 x0, .int .i64 x1] 33)).drew) := Lib.hid ((Below.refl _ w2).alloc (Nat.le_refl _) _).drew
    have HO0 : Hid (OwnE 2 encPoint (w2.alloc (.cells #[.int .i64 y0, .int .i64 y1, .int .i64 x0, .int .i64 x1] 33)).drew w2.heap.size 33 (.slice (some ⟨w2.heap.size, 0, none⟩) 2 2) [(y0, y1), (x0, x1)]) := Lib.hid ((World.ownsRow_lit (base := w2.heap.size) (e := 33) (size := 2) w2 #[.int .i64 y0, .int .i64 y1, .int .i64 x0, .int .i64 x1] 2 (Nat.le_refl _) (by decide) rfl))
    have HA0 : Hid (SeesE 2 encPoint (w2.alloc (.cells #[.int .i64 y0, .int .i64 y1, .int .i64 x0, .int .i64 x1] 33)).drew w2.heap.size (if c1 = 2 then some ⟨bb, off, none⟩ else some ⟨bb, off + 4, none⟩) (L.drop 2)) := Lib.hid (HT.out.below HB1.out)
    have HE1 : Hid (L.length - 2 = (L.drop 2).length) := Lib.hid (by simp)
    have HDD : Hid ([(y0, y1), (x0, x1)].length + (L.drop 2).length ≤ 1099511627776) := Lib.hid (by simp; omega)
    have HW0 : Hid (w2.heap.size ≤ (w2.alloc (.cells #[.int .i64 y0, .int .i64 y1, .int .i64 x0, .int .i64 x1] 33)).drew.heap.size) := Lib.hid HB1.out.size
    have K : Hid ((w2.cell? ⟨bb, off, none⟩ = some (.int .i64 x0) ∧ w2.cell? ⟨bb, off + 1, none⟩ = some (.int .i64 x1)) ∧ (w2.cell? ⟨bb, off + 2, none⟩ = some (.int .i64 y0) ∧ w2.cell? ⟨bb, off + 2 + 1, none⟩ = some (.int .i64 y1))) := Lib.hid ⟨⟨q0, q1⟩, q2, q3⟩
    have KD : Hid ((w2.drew.cell? ⟨bb, off, none⟩ = some (.int .i64 x0) ∧ w2.drew.cell? ⟨bb, off + 1, none⟩ = some (.int .i64 x1)) ∧ (w2.drew.cell? ⟨bb, off + 2, none⟩ = some (.int .i64 y0) ∧ w2.drew.cell? ⟨bb, off + 2 + 1, none⟩ = some (.int .i64 y1))) := Lib.hid ⟨⟨q0, q1⟩, q2, q3⟩
    have KA : Hid (((w2.alloc (.cells #[.int .i64 y0, .int .i64 y1, .int .i64 x0, .int .i64 x1] 33)).drew.cell? ⟨bb, off, none⟩ = some (.int .i64 x0) ∧ (w2.alloc (.cells #[.int .i64 y0, .int .i64 y1, .int .i64 x0, .int .i64 x1] 33)).drew.cell? ⟨bb, off + 1, none⟩ = some (.int .i64 x1)) ∧ ((w2.alloc (.cells #[.int .i64 y0, .int .i64 y1, .int .i64 x0, .int .i64 x1] 33)).drew.cell? ⟨bb, off + 2, none⟩ = some (.int .i64 y0) ∧ (w2.alloc (.cells #[.int .i64 y0, .int .i64 y1, .int .i64 x0, .int .i64 x1] 33)).drew.cell? ⟨bb, off + 2 + 1, none⟩ = some (.int .i64 y1))) := Lib.hid ⟨⟨(HB1.out.cell hbl).trans q0, (HB1.out.cell hbl).trans q1⟩, (HB1.out.cell hbl).trans q2, (HB1.out.cell hbl).trans q3⟩
    have i0 : 0 < L.length := by omega
    have i1 : 1 < L.length := by omega
    have HSW : Hid (Fine ((y0, y1) :: (x0, x1) :: L.drop 2)) := Lib.hid (by have := HH.out; rw [HLL.out] at this ⊢; exact this.swap)
    have HCG : Hid (p < w.heap.size ∧ Cur w2 p ∧ w.grownBy w2 (some p)) := Lib.hid ⟨HR2.out.1, HR2.out.2.1, HR2.out.2.2.1⟩
    go_wp2_with fail
    go_region_held3 (fun w' => (w'.cell? ⟨bb, off, none⟩ = some (.int .i64 x0) ∧ w'.cell? ⟨bb, off + 1, none⟩ = some (.int .i64 x1)) ∧ (w'.cell? ⟨bb, off + 2, none⟩ = some (.int .i64 y0) ∧ w'.cell? ⟨bb, off + 2 + 1, none⟩ = some (.int .i64 y1))) (first | with_reducible exact K.out | with_reducible exact KD.out | with_reducible exact KA.out | with_reducible exact K4.out) (first
      | (refine stepPt (w2.alloc (.cells #[.int .i64 y0, .int .i64 y1, .int .i64 x0, .int .i64 x1] 33)).drew _ _ (by rfl) w2.heap.size (.slice (some ⟨w2.heap.size, 0, none⟩) 2 2) [(y0, y1), (x0, x1)] (by rfl) HO0.out w2.heap.size (if c1 = 2 then some ⟨bb, off, none⟩ else some ⟨bb, off + 4, none⟩) (L.length - 2) (c1 - 2) (L.drop 2) (by rfl) HE1.out HA0.out HDD.out HW0.out ?_; intro A4 c4 L4 w4 hL4 g1 g2 ho4 hb4; have HL4 := hL4; have HO4 := Lib.hid ho4; have HB4 := Lib.hid hb4; have HG := Lib.hid (And.intro g1 g2); have K4 : Hid ((w4.cell? ⟨bb, off, none⟩ = some (.int .i64 x0) ∧ w4.cell? ⟨bb, off + 1, none⟩ = some (.int .i64 x1)) ∧ (w4.cell? ⟨bb, off + 2, none⟩ = some (.int .i64 y0) ∧ w4.cell? ⟨bb, off + 2 + 1, none⟩ = some (.int .i64 y1))) := Lib.hid ⟨⟨(hb4.cell hbl).trans KA.out.1.1, (hb4.cell hbl).trans KA.out.1.2⟩, (hb4.cell hbl).trans KA.out.2.1, (hb4.cell hbl).trans KA.out.2.2⟩) | fail)
    all_goals
      go_wp2
      go_ret
      have hcg : CurG p w w4 := (show CurG p w w2 from HCG.out).bel (HB1.out.trans HB4.out)
      have e2 : (L.drop 2).length = L.length - 2 := by simp
      have g1 := HG.out.1
      have g2 := HG.out.2
      simp only [List.length_cons, List.length_nil, e2] at g1 g2
      have ho := HO4.out.mono hle
      exact Rowed.rrow ⟨hcg.1, hcg.2.1, hcg.2.2, ho⟩ (by omega) (by omega) (by rw [HL4.out]; exact HSW.out)
  · obtain ⟨g, rfl, hBg, -, -⟩ := HR2.out.2.2.2.row (by omega)
    have hcap := HR2.out.2.2.2.cap
    have hcm := HR2.out.2.2.2.capMax
    have hc1 : (2 : Int) ≤ (c1 : Int) := by omega
    go_wp2
    go_ret
    refine ⟨some ⟨g, 0, none⟩, _, L.take 2, by rw [List.length_take, Nat.min_eq_left (by omega)]; rfl, by rw [List.length_take]; omega, by rw [List.length_take]; omega, by rw [List.length_take]; omega, hcm, fine_short (by rw [List.length_take]; omega), ?_, HR2.out.2.2.2.base, HR2.out.2.1, HR2.out.2.2.1⟩
    have h := (HR2.out.2.2.2.sees elPoint).cut 0 2 (some ⟨g, 0, none⟩) (fun _ => by simp [add_none])
    rwa [List.drop_zero] at h
  · have n0 : ¬ n = 0 := by omega
    have n1 : ¬ n = 1 := by omega
    have n2 : ¬ n = 2 := by omega
    go_wp2
    go_ret
    exact HR2.out.rrow (by omega) h3.2 HH.out.fine
/-- Whole draws. -/
def GotRing (w : World) (e : Ending) (w' : World) : Prop :=
  ∃ A c l, e = .returned (.slice A l.length c) ∧ 2 ≤ l.length ∧ l.length ≤ 6 ∧ l.length ≤ c ∧ (c : Int) ≤ 9223372036854775807 ∧ Fine l ∧ SeesE 2 encPoint w' w'.heap.size A l ∧ Below w.heap.size w w'
def GotRingK (w : World) (e : Ending) (w' : World) : Prop :=
  ∃ A c l k, e = .returned (.tuple #[.slice A l.length c, .int .i64 k]) ∧ 2 ≤ l.length ∧ l.length ≤ 6 ∧ l.length ≤ c ∧ (c : Int) ≤ 9223372036854775807 ∧ (-1 ≤ k ∧ k ≤ 6) ∧ SeesE 2 encPoint w' w'.heap.size A l ∧ Below w.heap.size w w'
def GotRingP (w : World) (e : Ending) (w' : World) : Prop :=
  ∃ A c l x y, e = .returned (.tuple #[.slice A l.length c, PtV x y]) ∧ 2 ≤ l.length ∧ l.length ≤ 6 ∧ l.length ≤ c ∧ (c : Int) ≤ 9223372036854775807 ∧ SeesE 2 encPoint w' w'.heap.size A l ∧ Below w.heap.size w w'
theorem drawIsRing_any (A : Option Addr) (len cap B : Nat) (w : World) (hc : Code w B A len) :
    Calls Tryz.prog 8 #[.slice A len cap] w (GotRing w) := by
  have HC := Lib.hid hc
  clear hc
  go_enter Tryz.func8, Tryz.ntmps8
  go_wp2_with fail
  refine (new_any A len cap B _ HC.out).mono ?_
  rintro e w1 ⟨p, hp, rfl, hc1, hb1⟩
  have HB1 := Lib.hid hb1
  clear hb1
  go_wp2_with fail
  refine (l7Any_any p _ hc1).mono ?_
  rintro e w2 ⟨A2, c2, l, rfl, h1, h2, h3, h4, hf, hs, -, hc2, hg2⟩
  have HS := Lib.hid hs
  have HF := Lib.hid hf
  have HB2 := Lib.hid (below_grown HB1.out hg2 HB1.out.size hp)
  clear hs hc2 hg2 hc1 hf
  go_wp2
  go_ret
  exact ⟨A2, c2, l, rfl, h1, h2, h3, h4, HF.out, HS.out, HB2.out⟩
set_option maxRecDepth 100000 in
theorem drawRotateRing_any (A : Option Addr) (len cap B : Nat) (w : World) (hc : Code w B A len) :
    Calls Tryz.prog 12 #[.slice A len cap] w (GotRingK w) := by
  have HC := Lib.hid hc
  clear hc
  go_enter Tryz.func12, Tryz.ntmps12
  go_wp2_with fail
  refine (new_any A len cap B _ HC.out).mono ?_
  rintro e w1 ⟨p, hp, rfl, hc1, hb1⟩
  have HB1 := Lib.hid hb1
  have hpl := cur_lt hc1
  clear hb1
  go_wp2_with fail
  refine (l7Any_any p _ hc1).mono ?_
  rintro e w2 ⟨A2, c2, l, rfl, h1, h2, h3, h4, -, hs, hlo, hc2, hg2⟩
  have HS := Lib.hid hs
  have HB2 := Lib.hid (below_grown HB1.out hg2 HB1.out.size hp)
  have HL := Lib.hid hlo
  clear hs hg2 hc1 hlo
  go_wp2_with fail
  refine (below_any p 8 _ (by decide) (by decide) hc2).mono ?_
  rintro e w3 ⟨⟨k, k0, k1, rfl⟩, hc3, hg3⟩
  have HS2 := Lib.hid ((HS.out.kept hg3 (fun a ha => by have := HL.out a ha; omega)).mono hg3.size)
  have HB3 := Lib.hid (below_grown HB2.out hg3 HB2.out.size hp)
  have hkw : IntKind.i64.wrap (k - 1) = k - 1 := IntWalk.i64_in _ (by omega)
  clear hg3 hc2 hc3
  go_wp2
  refine bodyPost_ret (v := .tuple #[.slice A2 l.length c2, .int .i64 (k - 1)]) (by simp [results, Tryz.results12, go_sem]) rfl ?_
  exact ⟨A2, c2, l, k - 1, rfl, h1, h2, h3, h4, by omega, HS2.out, HB3.out⟩
theorem SeesE.setOther {α : Type} {n : Nat} {enc : α → List Value} {w : World} {B : Nat} {A : Option Addr} {l : List α} (h : SeesE n enc w B A l) (b i : Nat) (v : Value) (hne : ∀ a, A = some a → a.block ≠ b) : SeesE n enc (w.setCell ⟨b, i, none⟩ v) B A l := fun j x hj => by
  obtain ⟨b', off, e, hlt, hc⟩ := h j x hj
  exact ⟨b', off, e, hlt, fun k u hu => (World.cell?_of_block (Below.heap_setCell _ _ _ _ (by simpa using hne _ e))).trans (hc k u hu)⟩
set_option maxRecDepth 100000 in
set_option maxHeartbeats 1000000 in
theorem drawIsInside_any (A : Option Addr) (len cap B : Nat) (w : World) (hc : Code w B A len) :
    Calls Tryz.prog 14 #[.slice A len cap] w (GotRingP w) := by
  have HC := Lib.hid (code_below hc ((Below.refl B w).alloc hc.2.1 (.cells #[.int .i64 0, .int .i64 0] 33)))
  have HB := Lib.hid (Boxes.of1 (a := 0) (b := 0) w 33)
  clear hc
  go_enter Tryz.func14, Tryz.ntmps14
  go_wp2_with fail
  refine (new_any A len cap B _ HC.out).mono ?_
  rintro e w1 ⟨p, hp, rfl, hc1, hb1⟩
  have HB1 := Lib.hid (HB.out.next hb1)
  have hp' : w.heap.size + 1 ≤ p := by have := HB.out.2.1; exact Nat.le_trans this hp
  have hz1 : w.heap.size + 1 ≤ w1.heap.size := HB1.out.2.1
  have hpl := cur_lt hc1
  clear HB hb1 hp HC
  go_wp2_with fail
  refine (l7Any_any p _ hc1).mono ?_
  rintro e w2 ⟨A2, c2, l, rfl, h1, h2, h3, h4, -, hs, hlo, hc2, hg2⟩
  have HS := Lib.hid hs
  have HB2 := Lib.hid (HB1.out.nextG hg2 (by simpa using hp'))
  have HL := Lib.hid hlo
  clear hs hg2 hc1 hlo HB1
  go_wp2_with fail
  refine (l4Any_any p _ hc2).mono ?_
  rintro e w3 ⟨⟨x, y, -, -, -, -, rfl⟩, hc3, hg3⟩
  have HS2 := Lib.hid ((HS.out.kept hg3 (fun a ha => by have := HL.out a ha; omega)).mono hg3.size)
  have HB3 := Lib.hid (HB2.out.nextG hg3 (by simpa using hp'))
  obtain ⟨k0, k1⟩ := HB3.out.c1
  obtain ⟨f0, f1⟩ := HB3.out.frozen (j := 0) rfl
  simp only [Nat.add_zero] at f0 f1
  clear hg3 hc2 hc3 HB2
  go_wp2
  refine bodyPost_ret (v := .tuple #[.slice A2 l.length c2, PtV x y]) (by simp [results, Tryz.results14, go_sem, k0, k1]) rfl ?_
  have hne : ∀ a, A2 = some a → a.block ≠ w.heap.size := fun a ha => by have := HL.out a ha; omega
  exact ⟨A2, c2, l, x, y, rfl, h1, h2, h3, h4, ((HS2.out.setOther _ _ _ hne).setOther _ _ _ hne).mono (by simp [World.setCell]), ((HB3.out.1).setCell (Nat.le_refl _) _).setCell (Nat.le_refl _) _⟩
end Go.Proofs.YtbnjaaegbmhopaaGreatDoor
