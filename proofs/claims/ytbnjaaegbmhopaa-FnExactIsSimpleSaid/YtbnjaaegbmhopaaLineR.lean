/- Lines: slices.Reverse at a row of points of the call's own, and TurnLine of package impl. -/
import Derived.Test.YtbnjaaegbmhopaaLineE
namespace Go.Proofs.Ytbnjaaegbmhopaa
open Go.ChangeShapes Go.WideShapes Go.ChangeAt Go.RowKit
set_option linter.unusedVariables false

/-- The first and the last k are turned round. -/
def RevAt {α : Type} (L : List α) (k : Nat) (L1 : List α) : Prop := L1.length = L.length ∧ ∀ m, m < L.length → L1[m]? = if m < k ∨ L.length ≤ m + k then L.reverse[m]? else L[m]?
theorem RevAt.zero {α : Type} (L : List α) : RevAt L 0 L := ⟨rfl, fun m hm => by rw [if_neg (by omega)]⟩
theorem RevAt.mid {α : Type} {L L1 : List α} {k : Nat} (h : RevAt L k L1) (hk : 2 * k < L.length) : L1[k]? = L[k]? ∧ L1[L.length - 1 - k]? = L[L.length - 1 - k]? :=
  ⟨by rw [h.2 k (by omega), if_neg (by omega)], by rw [h.2 _ (by omega), if_neg (by omega)]⟩
theorem RevAt.step {α : Type} {L L1 : List α} {k jn : Nat} {x y : α} (h : RevAt L k L1) (hk : k < jn) (hj : jn + k + 1 = L.length) (hx : L1[k]? = some x) (hy : L1[jn]? = some y) : RevAt L (k + 1) ((L1.set k y).set jn x) := by
  have ej : L.length - 1 - k = jn := by omega
  have h1 := h.mid (by omega)
  rw [ej] at h1
  refine ⟨by simp [h.1], fun m hm => ?_⟩
  rw [List.getElem?_set, List.getElem?_set]
  simp only [List.length_set]
  by_cases e1 : jn = m
  · subst e1
    rw [if_pos rfl, if_pos (by rw [h.1]; omega), if_pos (by omega), List.getElem?_reverse (by omega)]
    have : L.length - 1 - jn = k := by omega
    rw [this, ← h1.1, hx]
  · rw [if_neg e1]
    by_cases e2 : k = m
    · subst e2
      rw [if_pos rfl, if_pos (by rw [h.1]; omega), if_pos (by omega), List.getElem?_reverse (by omega), ej, ← h1.2, hy]
    · rw [if_neg e2, h.2 m hm]
      by_cases e3 : m < k ∨ L.length ≤ m + k
      · rw [if_pos e3, if_pos (by omega)]
      · rw [if_neg e3, if_neg (by omega)]
theorem RevAt.done {α : Type} {L L1 : List α} {k : Nat} (h : RevAt L k L1) (hk : L.length ≤ 2 * k + 1) : L1 = L.reverse := by
  apply List.ext_getElem?
  intro m
  by_cases hm : m < L.length
  · rw [h.2 m hm]
    by_cases e : m < k ∨ L.length ≤ m + k
    · rw [if_pos e]
    · rw [if_neg e, List.getElem?_reverse hm]
      have : L.length - 1 - m = m := by omega
      rw [this]
  · rw [List.getElem?_eq_none (by rw [h.1]; omega), List.getElem?_eq_none (by rw [List.length_reverse]; omega)]

def RvRel (g c : Nat) (L : List (Int × Int)) (w : World) (i j : Value) (wr : World) : Prop :=
  ∃ (k : Nat) (L1 : List (Int × Int)), 2 * k ≤ L.length ∧ i = .int .i64 (k : Int) ∧ j = .int .i64 ((L.length : Int) - 1 - k) ∧ Hid (RevAt L k L1) ∧ L1.length = L.length ∧ RowE 2 encPoint wr g 25 c L1 ∧ Below g w wr
set_option maxRecDepth 100000 in
theorem reverse_any (g c : Nat) (L : List (Int × Int)) (w : World) (h : RowE 2 encPoint w g 25 c L) (hl : L.length ≤ 1099511627776) :
    Calls Try.prog 88 #[.slice (some ⟨g, 0, none⟩) L.length c] w fun e w' => e = .returned (.tuple #[]) ∧ ∃ L1, Hid (L1 = L.reverse) ∧ L1.length = L.length ∧ RowE 2 encPoint w' g 25 c L1 ∧ Below g w w' := by
  have HR := Lib.hid h; clear h
  go_enter Try.func88, Try.ntmps88
  go_wp2
  go_loopw [2, 3] (fun i j wr => RvRel g c L w i j wr) (fun i _ _ => L.length - (intOf i).toNat)
  case atStart => exact ⟨0, L, by omega, rfl, by go_num, Lib.hid (RevAt.zero L), rfl, HR.out, Below.refl _ _⟩
  case round =>
    obtain ⟨k, L1, hk, rfl, rfl, hv, hn, hr, hb⟩ := hrel
    have HB := Lib.hid hb; clear hb
    by_cases hlt : 2 * k + 1 < L.length
    · obtain ⟨jn, hj⟩ : ∃ jn, jn + k + 1 = L.length := ⟨L.length - 1 - k, by omega⟩
      have e1 : (L.length : Int) - 1 - k = (jn : Int) := by omega
      rw [e1]
      have hkj : (k : Int) < (jn : Int) := by omega
      have hjl : (jn : Int) < (L.length : Int) := by omega
      have hkl : (k : Int) < (L.length : Int) := by omega
      obtain ⟨⟨x0, x1⟩, hx⟩ : ∃ x, L1[k]? = some x := ⟨_, List.getElem?_eq_getElem (by omega)⟩
      obtain ⟨⟨y0, y1⟩, hy⟩ : ∃ x, L1[jn]? = some x := ⟨_, List.getElem?_eq_getElem (by omega)⟩
      obtain ⟨k0, k1⟩ := rowCellsPoint hr hx
      obtain ⟨k2, k3⟩ := rowCellsPoint hr hy
      obtain ⟨f0, f1⟩ := rowFrozenPoint hr k
      obtain ⟨f2, f3⟩ := rowFrozenPoint hr jn
      have hrd : RowE 2 encPoint wr.drew g 25 c L1 := hr
      have hr1 := rowPoint_set hrd (j := k) (by omega) y0 y1
      have hy1 : (L1.set k (y0, y1))[jn]? = some (y0, y1) := by rw [List.getElem?_set, if_neg (by omega)]; exact hy
      obtain ⟨q2, q3⟩ := rowCellsPoint hr1 hy1
      have HV := Lib.hid hv; have HX := Lib.hid hx; have HY := Lib.hid hy
      have HR1 := Lib.hid hr1
      have HN := Lib.hid hn
      clear hv hx hy hr1 hrd hr hy1 hn
      go_wp2_with fail
      go_region_with (fail)
      all_goals
        go_wp2
        go_roundw
        case rel => exact ⟨k + 1, (L1.set k (y0, y1)).set jn (x0, x1), by omega, by go_num, by go_num, Lib.hid (HV.out.out.step (by omega) hj HX.out HY.out), by rw [List.length_set, List.length_set]; exact HN.out, rowPoint_set HR1.out (by have := HN.out; rw [List.length_set]; omega) x0 x1, ((((HB.out.setCell (p := ⟨g, k * 2, none⟩) (Nat.le_refl _) _).setCell (p := ⟨g, k * 2 + 1, none⟩) (Nat.le_refl _) _).setCell (p := ⟨g, jn * 2, none⟩) (Nat.le_refl _) _).setCell (p := ⟨g, jn * 2 + 1, none⟩) (Nat.le_refl _) _).drew⟩
        case measure => simp [intOf]; omega
    · have e1 : ¬ (k : Int) < (L.length : Int) - 1 - k := by omega
      go_wp2
      go_end0
      exact ⟨rfl, L1, Lib.hid (hv.out.done (by omega)), hn, hr, HB.out⟩
theorem reverse0_any (A : Option Addr) (c : Nat) (w : World) :
    Calls Try.prog 88 #[.slice A 0 c] w fun e w' => e = .returned (.tuple #[]) ∧ w = w' := by
  go_enter Try.func88, Try.ntmps88
  go_wp2
  go_loopw [2, 3] (fun i j wr => i = .int .i64 0 ∧ j = .int .i64 (-1) ∧ w = wr) (fun _ _ _ => 0)
  case atStart => exact ⟨rfl, rfl, rfl⟩
  case round =>
    obtain ⟨rfl, rfl, rfl⟩ := hrel
    go_wp2
    go_end0
    exact ⟨rfl, rfl⟩
set_option maxRecDepth 100000 in
theorem turnLine_any (A : Option Addr) (c : Nat) (l : List (Int × Int)) (w : World) (hs : SeesE 2 encPoint w w.heap.size A l) (hl : l.length ≤ 1099511627776) :
    Calls Try.prog 32 #[.slice A l.length c] w (GivesE 2 encPoint 25 l.reverse w) := by
  have HS := Lib.hid hs; clear hs
  go_enter Try.func32, Try.ntmps32
  go_wp2_with (at_builtin; refine appPoint _ rfl _ _ rfl w.heap.size _ [] rfl (OwnE.lit w w.heap.size 25 (Nat.le_refl _)) w.heap.size A l.length c l rfl rfl (HS.out.alloc (Nat.le_refl _) _) (by simp; omega) (by simp) ?_; intro A1 c1 L w1 hL h1 h2 ho hb)
  have hn : L.length = l.length := by simp at h1 h2; omega
  have HL : Hid (L = l) := Lib.hid (by rw [hL.out]; rfl)
  have HO := Lib.hid ho
  have HB := Lib.hid (((Below.refl w.heap.size w).alloc (Nat.le_refl _) (.cells #[] 25)).trans hb)
  clear h1 h2 ho hb hL
  by_cases h0 : L.length = 0
  · rw [h0]
    refine (reverse0_any A1 c1 w1).mono ?_
    rintro e w2 ⟨rfl, rfl⟩
    go_wp2
    go_ret
    have e0 : L = [] := List.length_eq_zero_iff.1 h0
    have ho := HO.out
    rw [e0] at ho
    exact ⟨A1, c1, [], Lib.hid (by rw [← HL.out, e0]; rfl), rfl, ho, HB.out⟩
  · obtain ⟨g, rfl, hBg, -, hr⟩ := HO.out.row (by omega)
    refine (reverse_any g c1 L w1 hr (by omega)).mono ?_
    rintro e w2 ⟨rfl, L1, hL1, hn1, hr1, hb1⟩
    have HR := Lib.hid hr1; have HB1 := Lib.hid hb1
    clear hr hr1 hb1
    go_wp2
    go_ret
    exact ⟨_, c1, L1, Lib.hid (by rw [hL1.out, HL.out]), by rw [hn1, hn]; rfl, HR.out.own elPoint hBg, HB.out.trans (HB1.out.mono hBg)⟩
end Go.Proofs.Ytbnjaaegbmhopaa
