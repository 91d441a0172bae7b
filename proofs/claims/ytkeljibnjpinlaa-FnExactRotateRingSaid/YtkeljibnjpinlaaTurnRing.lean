/- TurnRing of package impl. -/
import Derived.Test.YtkeljibnjpinlaaLineR
import Derived.Test.YtkeljibnjpinlaaConcat
import Derived.Test.YtkeljibnjpinlaaRing
import Derived.Test.YtkeljibnjpinlaaStepE
namespace Go.Proofs.Ytkeljibnjpinlaa
open Go.ChangeShapes Go.WideShapes Go.ChangeAt Go.RowKit
set_option linter.unusedVariables false

theorem len_one_more {α : Type} {L t : List α} {x : α} {n : Nat} (h : L = t.reverse) (h1 : t.length = n) (h2 : n ≤ 1099511627775) : [x].length + L.length ≤ 1099511627776 := by
  subst h; rw [List.length_reverse, h1]; simp; omega
set_option maxRecDepth 100000 in
set_option maxHeartbeats 1000000 in
theorem turnLine_at (n : Nat) (A : Option Addr) (c : Nat) (l : List (Int × Int)) (w : World) (e : l.length = n) (hs : SeesE 2 encPoint w w.heap.size A l) (hl : n ≤ 1099511627776) :
    Calls Try.prog 9 #[.slice A n c] w (GivesE 2 encPoint 36 l.reverse w) := by
  subst e; exact turnLine_any A c l w hs hl
set_option maxRecDepth 100000 in
set_option maxHeartbeats 1000000 in
theorem turnRing_any (A : Option Addr) (c : Nat) (l : List (Int × Int)) (w : World) (hs : SeesE 2 encPoint w w.heap.size A l) (hl : l.length ≤ 274877906944) (hlc : l.length ≤ c) (hc : (c : Int) ≤ 9223372036854775807) :
    Calls Try.prog 22 #[.slice A l.length c] w (GivesE 2 encPoint 36 (trn l) w) := by
  have HS := Lib.hid hs; clear hs
  go_enter Try.func22, Try.ntmps22
  match l with
  | [] =>
    go_wp2
    go_ret
    exact ⟨_, _, [], Lib.hid rfl, rfl, OwnE.lit _ _ _ (Nat.le_refl _), (Below.refl _ w).alloc (Nat.le_refl _) _⟩
  | (x, y) :: t =>
    have hx : ((x, y) :: t)[0]? = some (x, y) := rfl
    obtain ⟨b, off, rfl, hb, -⟩ := HS.out 0 _ hx
    obtain ⟨k0', k1'⟩ := cellsPoint HS.out hx
    have k0 : w.cell? ⟨b, off, none⟩ = some (.int .i64 x) := by simpa using k0'
    have k1 : w.cell? ⟨b, off + 1, none⟩ = some (.int .i64 y) := by simpa using k1'
    clear k0' k1'
    have HE : Hid (((x, y) :: t).length = t.length + 1) := Lib.hid rfl
    obtain ⟨n, hn⟩ : ∃ n, ((x, y) :: t).length = n := ⟨_, rfl⟩
    have hn1 : 0 < n := by rw [← hn]; simp
    have HN := Lib.hid hn
    rw [hn] at hl hlc ⊢
    clear hn
    have b0 : ¬ ((n : Int) = 0) := by omega
    have b1 : ¬ ((n : Int) < 1) := by omega
    have b2 : (1 : Int) ≤ (n : Int) := by omega
    have HO0 : Hid (OwnE 2 encPoint (w.alloc (.cells #[.int .i64 x, .int .i64 y] 36)).drew w.heap.size 36 (.slice (some ⟨w.heap.size, 0, none⟩) 1 1) [(x, y)]) := Lib.hid (World.ownsRow_lit (base := w.heap.size) (e := 36) (size := 2) w #[.int .i64 x, .int .i64 y] 1 (Nat.le_refl _) (by decide) rfl)
    have HR : Hid ([(x, y)] ++ t.reverse = trn ((x, y) :: t)) := Lib.hid rfl
    have HN1 : Hid (t.length = n - 1) := Lib.hid (by have := HN.out; rw [HE.out] at this; omega)
    have d0 : (w.alloc (.cells #[.int .i64 x, .int .i64 y] 36)).drew.cell? ⟨b, off, none⟩ = some (.int .i64 x) := (((Below.refl w.heap.size w).alloc (Nat.le_refl _) _).cell (p := ⟨b, off, none⟩) hb).trans k0
    have d1 : (w.alloc (.cells #[.int .i64 x, .int .i64 y] 36)).drew.cell? ⟨b, off + 1, none⟩ = some (.int .i64 y) := (((Below.refl w.heap.size w).alloc (Nat.le_refl _) _).cell (p := ⟨b, off + 1, none⟩) hb).trans k1
    have e0 : w.drew.cell? ⟨b, off, none⟩ = some (.int .i64 x) := k0
    have e1 : w.drew.cell? ⟨b, off + 1, none⟩ = some (.int .i64 y) := k1
    have hn9 : n - 1 ≤ 1099511627775 := by omega
    have D0 := Lib.hid d0; have D1 := Lib.hid d1; have E0 := Lib.hid e0; have E1 := Lib.hid e1
    clear d0 d1 e0 e1
    by_cases hc1 : c = 1
    · subst hc1
      obtain rfl : n = 1 := by omega
      have HZ1 : Hid (t.length = 0) := Lib.hid (by have := HN1.out; omega)
      clear hn9
      have hn9 : 0 ≤ 1099511627775 := by omega
      have HT0 : Hid (SeesE 2 encPoint w w.heap.size (some ⟨b, off, none⟩) t) := Lib.hid (show SeesE 2 encPoint w w.heap.size (some ⟨b, off, none⟩) t from by rw [show t = [] from List.length_eq_zero_iff.1 HZ1.out]; exact SeesE.nil)
      have HT1 : Hid (SeesE 2 encPoint w.drew w.drew.heap.size (some ⟨b, off, none⟩) t) := Lib.hid HT0.out.drew
      have HT2 : Hid (SeesE 2 encPoint (w.alloc (.cells #[.int .i64 x, .int .i64 y] 36)).drew (w.alloc (.cells #[.int .i64 x, .int .i64 y] 36)).drew.heap.size (some ⟨b, off, none⟩) t) := Lib.hid ((HT0.out.alloc (Nat.le_refl _) _).drew.mono (by show _ ≤ (w.alloc _).heap.size; simp))
      go_wp2
      go_region_held3 (fun w' => w'.cell? ⟨b, off, none⟩ = some (.int .i64 x) ∧ w'.cell? ⟨b, off + 1, none⟩ = some (.int .i64 y)) (first | with_reducible exact ⟨k0, k1⟩ | with_reducible exact ⟨E0.out, E1.out⟩ | with_reducible exact ⟨D0.out, D1.out⟩ | with_reducible exact hQ.out | with_reducible exact hQ2.out | with_reducible exact hQ3.out) (first
        | (go_at_call 9; refine (turnLine_at 0 _ _ t _ HZ1.out HT2.out (Nat.le_succ_of_le hn9)).mono ?_; rintro e w1 ⟨A1, c1, L, hL, rfl, ho1, hb1⟩; have HL := hL; have HO1 := Lib.hid ho1; have HB1 := Lib.hid hb1; have HO2 := Lib.hid (HO0.out.belowAll hb1); have HL63 : [(x, y)].length + L.length ≤ 1099511627776 := (len_one_more HL.out HZ1.out hn9); have HW1 : w.heap.size ≤ w1.heap.size := Nat.le_trans (by show _ ≤ (w.alloc _).heap.size; simp) hb1.size; have hQ := Lib.hid (And.intro ((hb1.cell (World.block_lt_of_cell? _ _ D0.out)).trans D0.out) ((hb1.cell (World.block_lt_of_cell? _ _ D1.out)).trans D1.out)))
        | (go_at_call 9; refine (turnLine_at 0 _ _ t _ HZ1.out HT1.out (Nat.le_succ_of_le hn9)).mono ?_; rintro e w1 ⟨A1, c1, L, hL, rfl, ho1, hb1⟩; have HL := hL; have HO1 := Lib.hid ho1; have HB3 := Lib.hid hb1; have HO4 : Hid (OwnE 2 encPoint (w1.alloc (.cells #[.int .i64 x, .int .i64 y] 36)) w.heap.size 36 (.slice (some ⟨w1.heap.size, 0, none⟩) 1 1) [(x, y)]) := Lib.hid (World.ownsRow_lit (base := w.heap.size) (e := 36) (size := 2) w1 #[.int .i64 x, .int .i64 y] 1 hb1.size (by decide) rfl); have HL63 : [(x, y)].length + L.length ≤ 1099511627776 := (len_one_more HL.out HZ1.out hn9); have HS1 := Lib.hid (((ho1.sees elPoint).alloc (Nat.le_refl _) (.cells #[.int .i64 x, .int .i64 y] 36))); have HW3 : w.heap.size ≤ (w1.alloc (.cells #[.int .i64 x, .int .i64 y] 36)).heap.size := Nat.le_trans hb1.size (by simp); have hQ := Lib.hid (And.intro ((hb1.cell (World.block_lt_of_cell? _ _ E0.out)).trans E0.out) ((hb1.cell (World.block_lt_of_cell? _ _ E1.out)).trans E1.out)); have hQ2 := Lib.hid (And.intro ((((Below.refl w1.heap.size w1).alloc (Nat.le_refl _) (.cells #[.int .i64 x, .int .i64 y] 36)).cell (World.block_lt_of_cell? _ _ hQ.out.1)).trans hQ.out.1) ((((Below.refl w1.heap.size w1).alloc (Nat.le_refl _) (.cells #[.int .i64 x, .int .i64 y] 36)).cell (World.block_lt_of_cell? _ _ hQ.out.2)).trans hQ.out.2)))
        | (refine stepPt w1 _ _ (by rfl) w.heap.size (.slice (some ⟨w.heap.size, 0, none⟩) 1 1) [(x, y)] (by rfl) HO2.out w1.heap.size A1 L.length c1 L (by rfl) (by rfl) (HO1.out.sees elPoint) HL63 HW1 ?_; intro A3 c3 L3 w3 hL3 h2 h3 ho3 hb3; have HL3 := hL3; have HO3 := Lib.hid ho3; have HBB := Lib.hid ((((Below.refl _ w).alloc (Nat.le_refl _) (.cells #[.int .i64 x, .int .i64 y] 36)).drew.trans (HB1.out.mono (by show _ ≤ (w.alloc _).heap.size; simp))).trans hb3); have hQ3 := Lib.hid (And.intro ((hb3.cell hb).trans hQ.out.1) ((hb3.cell hb).trans hQ.out.2)))
        | (refine stepPt (w1.alloc (.cells #[.int .i64 x, .int .i64 y] 36)) _ _ (by rfl) w.heap.size (.slice (some ⟨w1.heap.size, 0, none⟩) 1 1) [(x, y)] (by rfl) HO4.out w1.heap.size A1 L.length c1 L (by rfl) (by rfl) HS1.out HL63 HW3 ?_; intro A3 c3 L3 w3 hL3 h2 h3 ho3 hb3; have HL3 := hL3; have HO3 := Lib.hid ho3; have HBB := Lib.hid ((((Below.refl _ w).drew.trans HB3.out).alloc HB3.out.size (.cells #[.int .i64 x, .int .i64 y] 36)).trans hb3); have hQ3 := Lib.hid (And.intro ((hb3.cell hb).trans hQ2.out.1) ((hb3.cell hb).trans hQ2.out.2))) | fail)
      all_goals
        go_wp2
        go_ret
        exact ⟨A3, c3, L3, Lib.hid (by rw [HL3.out, HL.out]; exact HR.out), rfl, HO3.out, HBB.out⟩
    · have hc1' : (c = 1) = False := by simp [hc1]
      have HT0 : Hid (SeesE 2 encPoint w w.heap.size (some ⟨b, off + 2, none⟩) t) := Lib.hid (HS.out.suf 1 (some ⟨b, off + 2, none⟩) (fun h1 => by simp [add_none]))
      have HT1 : Hid (SeesE 2 encPoint w.drew w.drew.heap.size (some ⟨b, off + 2, none⟩) t) := Lib.hid HT0.out.drew
      have HT2 : Hid (SeesE 2 encPoint (w.alloc (.cells #[.int .i64 x, .int .i64 y] 36)).drew (w.alloc (.cells #[.int .i64 x, .int .i64 y] 36)).drew.heap.size (some ⟨b, off + 2, none⟩) t) := Lib.hid ((HT0.out.alloc (Nat.le_refl _) _).drew.mono (by show _ ≤ (w.alloc _).heap.size; simp))
      go_wp2
      go_region_held3 (fun w' => w'.cell? ⟨b, off, none⟩ = some (.int .i64 x) ∧ w'.cell? ⟨b, off + 1, none⟩ = some (.int .i64 y)) (first | with_reducible exact ⟨k0, k1⟩ | with_reducible exact ⟨E0.out, E1.out⟩ | with_reducible exact ⟨D0.out, D1.out⟩ | with_reducible exact hQ.out | with_reducible exact hQ2.out | with_reducible exact hQ3.out) (first
        | (go_at_call 9; refine (turnLine_at (n - 1) _ _ t _ HN1.out HT2.out (Nat.le_succ_of_le hn9)).mono ?_; rintro e w1 ⟨A1, c1, L, hL, rfl, ho1, hb1⟩; have HL := hL; have HO1 := Lib.hid ho1; have HB1 := Lib.hid hb1; have HO2 := Lib.hid (HO0.out.belowAll hb1); have HL63 : [(x, y)].length + L.length ≤ 1099511627776 := (len_one_more HL.out HN1.out hn9); have HW1 : w.heap.size ≤ w1.heap.size := Nat.le_trans (by show _ ≤ (w.alloc _).heap.size; simp) hb1.size; have hQ := Lib.hid (And.intro ((hb1.cell (World.block_lt_of_cell? _ _ D0.out)).trans D0.out) ((hb1.cell (World.block_lt_of_cell? _ _ D1.out)).trans D1.out)))
        | (go_at_call 9; refine (turnLine_at (n - 1) _ _ t _ HN1.out HT1.out (Nat.le_succ_of_le hn9)).mono ?_; rintro e w1 ⟨A1, c1, L, hL, rfl, ho1, hb1⟩; have HL := hL; have HO1 := Lib.hid ho1; have HB3 := Lib.hid hb1; have HO4 : Hid (OwnE 2 encPoint (w1.alloc (.cells #[.int .i64 x, .int .i64 y] 36)) w.heap.size 36 (.slice (some ⟨w1.heap.size, 0, none⟩) 1 1) [(x, y)]) := Lib.hid (World.ownsRow_lit (base := w.heap.size) (e := 36) (size := 2) w1 #[.int .i64 x, .int .i64 y] 1 hb1.size (by decide) rfl); have HL63 : [(x, y)].length + L.length ≤ 1099511627776 := (len_one_more HL.out HN1.out hn9); have HS1 := Lib.hid (((ho1.sees elPoint).alloc (Nat.le_refl _) (.cells #[.int .i64 x, .int .i64 y] 36))); have HW3 : w.heap.size ≤ (w1.alloc (.cells #[.int .i64 x, .int .i64 y] 36)).heap.size := Nat.le_trans hb1.size (by simp); have hQ := Lib.hid (And.intro ((hb1.cell (World.block_lt_of_cell? _ _ E0.out)).trans E0.out) ((hb1.cell (World.block_lt_of_cell? _ _ E1.out)).trans E1.out)); have hQ2 := Lib.hid (And.intro ((((Below.refl w1.heap.size w1).alloc (Nat.le_refl _) (.cells #[.int .i64 x, .int .i64 y] 36)).cell (World.block_lt_of_cell? _ _ hQ.out.1)).trans hQ.out.1) ((((Below.refl w1.heap.size w1).alloc (Nat.le_refl _) (.cells #[.int .i64 x, .int .i64 y] 36)).cell (World.block_lt_of_cell? _ _ hQ.out.2)).trans hQ.out.2)))
        | (refine stepPt w1 _ _ (by rfl) w.heap.size (.slice (some ⟨w.heap.size, 0, none⟩) 1 1) [(x, y)] (by rfl) HO2.out w1.heap.size A1 L.length c1 L (by rfl) (by rfl) (HO1.out.sees elPoint) HL63 HW1 ?_; intro A3 c3 L3 w3 hL3 h2 h3 ho3 hb3; have HL3 := hL3; have HO3 := Lib.hid ho3; have HBB := Lib.hid ((((Below.refl _ w).alloc (Nat.le_refl _) (.cells #[.int .i64 x, .int .i64 y] 36)).drew.trans (HB1.out.mono (by show _ ≤ (w.alloc _).heap.size; simp))).trans hb3); have hQ3 := Lib.hid (And.intro ((hb3.cell hb).trans hQ.out.1) ((hb3.cell hb).trans hQ.out.2)))
        | (refine stepPt (w1.alloc (.cells #[.int .i64 x, .int .i64 y] 36)) _ _ (by rfl) w.heap.size (.slice (some ⟨w1.heap.size, 0, none⟩) 1 1) [(x, y)] (by rfl) HO4.out w1.heap.size A1 L.length c1 L (by rfl) (by rfl) HS1.out HL63 HW3 ?_; intro A3 c3 L3 w3 hL3 h2 h3 ho3 hb3; have HL3 := hL3; have HO3 := Lib.hid ho3; have HBB := Lib.hid ((((Below.refl _ w).drew.trans HB3.out).alloc HB3.out.size (.cells #[.int .i64 x, .int .i64 y] 36)).trans hb3); have hQ3 := Lib.hid (And.intro ((hb3.cell hb).trans hQ2.out.1) ((hb3.cell hb).trans hQ2.out.2))) | fail)
      all_goals
        go_wp2
        go_ret
        exact ⟨A3, c3, L3, Lib.hid (by rw [HL3.out, HL.out]; exact HR.out), rfl, HO3.out, HBB.out⟩
end Go.Proofs.Ytkeljibnjpinlaa
