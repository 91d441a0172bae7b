/- The model's draws of lines: any rows, whole draws. -/
import Derived.Test.YtbnjaaegbmhopaaGreatDoorDrawLine
namespace Go.Proofs.YtbnjaaegbmhopaaGreatDoor
open Go.ChangeShapes Go.WideShapes Go.ChangeAt Go.RowKit
set_option linter.unusedVariables false

/-- A row of at most 11 points was drawn: it lies in a new block. -/
def LRow (p : Nat) (w : World) (e : Ending) (w' : World) : Prop :=
  ∃ A c l, e = .returned (.slice A l.length c) ∧ 1 ≤ l.length ∧ (l.length ≤ 11 ∧ l.length ≤ c ∧ (c : Int) ≤ 9223372036854775807) ∧ SeesE 2 encPoint w' w'.heap.size A l ∧ (∀ a, A = some a → w.heap.size ≤ a.block) ∧ Cur w' p ∧ w.grownBy w' (some p)
theorem OwnE.base {α : Type} {n : Nat} {enc : α → List Value} {w : World} {B m c : Nat} {e : TypeId} {A : Option Addr} {L : List α} (h : OwnE n enc w B e (.slice A m c) L) : ∀ a, A = some a → B ≤ a.block := fun a ha => by
  subst ha
  exact (h.lt a.block (by simp [Value.ownBlock])).1
theorem OwnE.caps {α : Type} {n : Nat} {enc : α → List Value} {w : World} {B m c : Nat} {e : TypeId} {A : Option Addr} {L : List α} (h : OwnE n enc w B e (.slice A m c) L) : L.length ≤ c ∧ (c : Int) ≤ 9223372036854775807 := by
  obtain ⟨A', c', hv, hc, hl⟩ := h.form
  simp only [Value.slice.injEq] at hv
  unfold maxLen at hc
  omega
theorem Rowed.lrow {p : Nat} {w w' : World} {A : Option Addr} {c : Nat} {L : List (Int × Int)} (h : Rowed p w w' (.slice A L.length c) L) (h1 : 1 ≤ L.length) (h2 : L.length ≤ 11) : LRow p w (.returned (.slice A L.length c)) w' :=
  ⟨A, c, L, rfl, h1, ⟨h2, h.2.2.2.caps⟩, h.2.2.2.sees elPoint, h.2.2.2.base, h.2.1, h.2.2.1⟩
def lenOf : Value → Nat
  | .slice _ n _ => n
  | _ => 0
set_option maxRecDepth 100000 in
set_option maxHeartbeats 4000000 in
theorem l6Any_any (p : Nat) (w : World) (hc : Cur w p) :
    Calls Tryz.prog 127 #[.pointer (some ⟨p, 0, none⟩)] w (LRow p w) := by
  have HC := Lib.hid hc
  have hp := cur_lt hc
  clear hc
  go_enter Tryz.func127, Tryz.ntmps127
  go_wp2_with fail
  refine (l6Draw_any p _ HC.out).mono ?_
  rintro e w1 ⟨A1, c1, L, rfl, h1, h6, hr1⟩
  have HR1 := Lib.hid hr1
  clear hr1
  go_wp2_with fail
  refine (below_any p 12 _ (by decide) (by decide) HR1.out.2.1).mono ?_
  rintro e w2 ⟨⟨n, hn0, hn1, rfl⟩, hc2, hg2⟩
  have HR2 := Lib.hid (HR1.out.next hc2 hg2)
  clear hc2 hg2 HR1
  rcases (by omega : n = 0 ∨ n = 1 ∨ n = 2 ∨ n = 3 ∨ 4 ≤ n) with rfl | rfl | rfl | rfl | hn
  · obtain ⟨g, rfl, hBg, -, -⟩ := HR2.out.2.2.2.row (by omega)
    go_wp2_with fail
    refine (l4Any_any p _ HR2.out.2.1).mono ?_
    rintro e w3 ⟨⟨u, v, -, -, -, -, rfl⟩, hc3, hg3⟩
    have HR3 := Lib.hid (HR2.out.next hc3 hg3)
    clear hc3 hg3 HR2
    obtain ⟨g', hg', -, -, hr⟩ := HR3.out.2.2.2.row (by omega)
    obtain rfl : g = g' := by simpa using hg'
    obtain ⟨⟨y0, y1⟩, hy⟩ : ∃ y, L[0]? = some y := ⟨_, List.getElem?_eq_getElem (by omega)⟩
    obtain ⟨k0, k1⟩ := rowCellsPoint hr hy
    obtain ⟨f0, f1⟩ := rowFrozenPoint hr 0
    have hset := rowPoint_set hr (j := 0) (by omega) u v
    simp only [Nat.zero_mul, Nat.zero_add] at k0 k1 f0 f1 hset
    have hl0 : (0 : Int) < (L.length : Int) := by omega
    have HS := Lib.hid hset
    clear hset hr hy hg'
    go_wp2
    go_ret
    have hs := HS.out.own elPoint hBg
    rw [List.length_set] at hs
    have hpg : p < g := by have := hp; omega
    exact ⟨_, c1, L.set 0 (u, v), by rw [List.length_set]; rfl, by rw [List.length_set]; exact h1, ⟨by rw [List.length_set]; omega, hs.caps⟩, hs.sees elPoint, hs.base, cur_set_other (cur_set_other HR3.out.2.1 hpg) hpg, grown_setNew (grown_setNew HR3.out.2.2.1 hBg _ _) hBg _ _⟩
  · obtain ⟨k, x1, y1, hk, hx⟩ := lastL h1
    have hki : IntKind.i64.wrap ((L.length : Int) - 1) = (k : Int) := by rw [IntWalk.i64_in _ (by omega)]; omega
    have hkl : (k : Int) < (L.length : Int) := by omega
    obtain ⟨b, off, hA, hbl, -⟩ := HR2.out.2.2.2.sees elPoint k _ hx
    subst hA
    obtain ⟨q0, q1⟩ := cellsPoint (HR2.out.2.2.2.sees elPoint) hx
    have HK := Lib.hid hk
    clear hk hx
    have hle : w.heap.size ≤ w2.heap.size := HR2.out.2.2.1.size
    have hone : L.length + [(x1, y1)].length ≤ 1099511627776 := by simp; omega
    go_wp2_with (at_builtin; refine appPoint _ rfl _ _ rfl w.heap.size _ L rfl (HR2.out.2.2.2.alloc _) (w2.heap.size + 1) (some ⟨w2.heap.size, 0, none⟩) 1 1 [(x1, y1)] rfl rfl (seesE_at elPoint w2 w2.heap.size rfl (x1, y1) _ _ _ (Nat.lt_succ_self _) rfl) hone (Nat.le_trans hle (by simp)) ?_; intro A4 c4 L4 w4 hL4 g1 g2 ho4 hb4)
    go_ret
    have g3 : 1 ≤ L4.length ∧ L4.length ≤ 11 := by simp at g1 g2; omega
    exact (HR2.out.bel (((Below.refl w.heap.size w2).alloc hle _).trans hb4) (Nat.le_refl _) ho4).lrow g3.1 g3.2
  · obtain ⟨g, rfl, hBg, -, -⟩ := HR2.out.2.2.2.row (by omega)
    have hcap := HR2.out.2.2.2.cap
    have hc1 : (1 : Int) ≤ (c1 : Int) := by omega
    go_wp2
    go_ret
    refine ⟨some ⟨g, 0, none⟩, _, L.take 1, by rw [List.length_take, Nat.min_eq_left h1]; rfl, by rw [List.length_take]; omega, ⟨by rw [List.length_take]; omega, by have := HR2.out.2.2.2.caps; rw [List.length_take]; omega⟩, ?_, HR2.out.2.2.2.base, HR2.out.2.1, HR2.out.2.2.1⟩
    have h := (HR2.out.2.2.2.sees elPoint).cut 0 1 (some ⟨g, 0, none⟩) (fun _ => by simp [add_none])
    rwa [List.drop_zero] at h
  · go_wp2
    go_loopw [3] (fun v wr => ∃ (A : Option Addr) (c : Nat) (L : List (Int × Int)), v = .slice A L.length c ∧ 1 ≤ L.length ∧ L.length ≤ 11 ∧ Hid (Rowed p w wr v L)) (fun v _ => 11 - lenOf v)
    case atStart => exact ⟨_, _, L, rfl, h1, by omega, HR2⟩
    case round =>
      obtain ⟨A3, c3, L3, rfl, h3, h11, HR⟩ := hrel
      clear HR2
      by_cases hlt : L3.length < 11
      · have hlt' : (L3.length : Int) < 11 := by omega
        have hw : IntKind.i64.wrap (50 + (L3.length : Int)) = 50 + (L3.length : Int) := IntWalk.i64_in _ (by omega)
        have hle : w.heap.size ≤ wr.heap.size := HR.out.2.2.1.size
        have hone : L3.length + [((L3.length : Int), 50 + (L3.length : Int))].length ≤ 1099511627776 := by simp; omega
        go_wp2_with (at_builtin; refine appPoint _ rfl _ _ rfl w.heap.size _ L3 rfl (HR.out.2.2.2.alloc _) (wr.heap.size + 1) (some ⟨wr.heap.size, 0, none⟩) 1 1 [((L3.length : Int), 50 + (L3.length : Int))] rfl rfl (seesE_at elPoint wr wr.heap.size rfl ((L3.length : Int), 50 + (L3.length : Int)) _ _ _ (Nat.lt_succ_self _) rfl) hone (Nat.le_trans hle (by simp)) ?_; intro A4 c4 L4 w4 hL4 g1 g2 ho4 hb4)
        have g3 : L4.length = L3.length + 1 := by simp at g1 g2; omega
        go_roundw
        case rel => exact ⟨A4, c4, L4, rfl, by omega, by omega, Lib.hid (HR.out.bel (((Below.refl w.heap.size wr).alloc hle _).trans hb4) (Nat.le_refl _) ho4)⟩
        case measure => simp [lenOf]; omega
      · have hlt' : ¬ (L3.length : Int) < 11 := by omega
        go_wp2
        go_ret
        exact HR.out.lrow h3 h11
  · have n0 : ¬ n = 0 := by omega
    have n1 : ¬ n = 1 := by omega
    have n2 : ¬ n = 2 := by omega
    have n3 : ¬ n = 3 := by omega
    go_wp2
    go_ret
    exact HR2.out.lrow h1 (by omega)
theorem SeesE.kept {α : Type} {n : Nat} {enc : α → List Value} {w w' : World} {B p : Nat} {A : Option Addr} {l : List α} (h : SeesE n enc w B A l) (hg : w.grownBy w' (some p)) (hne : ∀ a, A = some a → a.block ≠ p) : SeesE n enc w' B A l := fun j x hj => by
  obtain ⟨b, off, e, hlt, hc⟩ := h j x hj
  exact ⟨b, off, e, hlt, fun k v hv => hg.cell (hc k v hv) (by have := hne _ e; simpa using this)⟩
/-- Whole draws. -/
def GotLine (w : World) (e : Ending) (w' : World) : Prop :=
  ∃ A c l, e = .returned (.slice A l.length c) ∧ 1 ≤ l.length ∧ (l.length ≤ 11 ∧ l.length ≤ c ∧ (c : Int) ≤ 9223372036854775807) ∧ SeesE 2 encPoint w' w'.heap.size A l ∧ Below w.heap.size w w'
def GotLines (w : World) (e : Ending) (w' : World) : Prop :=
  ∃ A c l A' c' l', e = .returned (.tuple #[.slice A l.length c, .slice A' l'.length c']) ∧ l.length ≤ 11 ∧ l'.length ≤ 11 ∧ SeesE 2 encPoint w' w'.heap.size A l ∧ SeesE 2 encPoint w' w'.heap.size A' l' ∧ Below w.heap.size w w'
end Go.Proofs.YtbnjaaegbmhopaaGreatDoor
