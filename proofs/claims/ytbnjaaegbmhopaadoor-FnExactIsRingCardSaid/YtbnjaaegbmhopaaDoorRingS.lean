/- Rings in the model: l7Segments, RotateRing, TurnRing. -/
import Derived.Test.YtbnjaaegbmhopaaDoorRingT
import Derived.Test.YtbnjaaegbmhopaaDoorStepE
namespace Go.Proofs.YtbnjaaegbmhopaaDoor
open Go.ChangeShapes Go.WideShapes Go.ChangeAt Go.RowKit
set_option linter.unusedVariables false

theorem keepAr {w : World} {p : Addr} {v : Value} (h : w.cell? p = some v) (o : Obj) : (w.alloc o).cell? p = some v :=
  (World.cell?_of_block (Below.heap_alloc _ _ _ (World.block_lt_of_cell? w p h))).trans h
theorem rgs_step {S L L2 : List (Int × Int × Int × Int)} {j : Nat} {x : Int × Int × Int × Int} (hL : L = S.take j) (h : L2 = L ++ [x]) (hx : S[j]? = some x) : L2 = S.take (j + 1) := by
  rw [h, hL, List.take_add_one, hx]; rfl
set_option maxRecDepth 100000 in
set_option maxHeartbeats 1000000 in
theorem l7Segments_any (A : Option Addr) (c : Nat) (l : List (Int × Int)) (w : World) (hs : SeesE 2 encPoint w w.heap.size A l) (hl : l.length ≤ 274877906944) :
    Calls Tryd.prog 30 #[.slice A l.length c] w (GivesE 4 encSegment 53 (rgS l) w) := by
  have HS := Lib.hid hs; clear hs
  have hrl := rgS_len l
  go_enter Tryd.func30, Tryd.ntmps30
  go_wp2
  go_loopw [3, 4] (fun v i wr => ∃ (A1 : Option Addr) (c1 : Nat) (L : List (Int × Int × Int × Int)) (j : Nat), v = .slice A1 L.length c1 ∧ i = .int .i64 (j : Int) ∧ j ≤ l.length ∧ Hid (L = (rgS l).take j) ∧ Hid (L.length = j) ∧ Hid (OwnE 4 encSegment wr w.heap.size 53 (.slice A1 L.length c1) L) ∧ Hid (Below w.heap.size w wr)) (fun _ i _ => l.length - (intOf i).toNat)
  case atStart => exact ⟨_, _, [], 0, rfl, rfl, Nat.zero_le _, Lib.hid (by simp), Lib.hid rfl, Lib.hid (OwnE.lit w _ _ (Nat.le_refl _)), Lib.hid ((Below.refl _ _).alloc (Nat.le_refl _) _)⟩
  case round =>
    obtain ⟨A1, c1, L, j, rfl, rfl, hj, hL, HN, HO, HB⟩ := hrel
    by_cases hlt : j < l.length
    · have hlt' : (j : Int) < (l.length : Int) := by omega
      have hrem2 : wrap64 ((j : Int) + 1) = (j : Int) + 1 := by unfold wrap64; omega
      have hrem3 : IntKind.i64.wrap ((j : Int) + 1) = (j : Int) + 1 := IntWalk.i64_in _ (by omega)
      obtain ⟨⟨x0, x1⟩, hx⟩ : ∃ p, l[j]? = some p := ⟨_, List.getElem?_eq_getElem hlt⟩
      obtain ⟨k, hk, hkl⟩ : ∃ k, (j + 1) % l.length = k ∧ k < l.length := ⟨_, rfl, Nat.mod_lt _ (by omega)⟩
      obtain ⟨⟨y0, y1⟩, hy⟩ : ∃ p, l[k]? = some p := ⟨_, List.getElem?_eq_getElem hkl⟩
      have HJ : Hid ((rgS l)[j]? = some (x0, x1, y0, y1)) := Lib.hid (rgS_get hx (by rw [hk]; exact hy))
      obtain ⟨b, off, rfl, hbl, -⟩ := HS.out j _ hx
      obtain ⟨k0, k1⟩ := cellsPoint (HS.out.below HB.out) hx
      obtain ⟨k2, k3⟩ := cellsPoint (HS.out.below HB.out) hy
      have hkl' : (k : Int) < (l.length : Int) := by omega
      have hne : ¬ ((l.length : Int) = 0) := by omega
      have hne2 : ¬ (l = []) := fun e => by rw [e] at hlt; simp at hlt
      have hone : L.length + [(x0, x1, y0, y1)].length ≤ 1099511627776 := by rw [HN.out]; simp; omega
      have d0 : wr.drew.cell? ⟨b, off + j * 2, none⟩ = some (.int .i64 x0) := k0
      have d1 : wr.drew.cell? ⟨b, off + j * 2 + 1, none⟩ = some (.int .i64 x1) := k1
      have d2 : wr.drew.cell? ⟨b, off + k * 2, none⟩ = some (.int .i64 y0) := k2
      have d3 : wr.drew.cell? ⟨b, off + k * 2 + 1, none⟩ = some (.int .i64 y1) := k3
      have HQ1 := Lib.hid (And.intro d0 (And.intro d1 (And.intro d2 d3)))
      have HQ2 := Lib.hid (And.intro (keepAr d0 (.cells (sC (x0, x1, y0, y1)) 53)) (And.intro (keepAr d1 (.cells (sC (x0, x1, y0, y1)) 53)) (And.intro (keepAr d2 (.cells (sC (x0, x1, y0, y1)) 53)) (keepAr d3 (.cells (sC (x0, x1, y0, y1)) 53)))))
      clear d0 d1 d2 d3
      have HB2 := Lib.hid (HB.out.drew.alloc HB.out.size (.cells (sC (x0, x1, y0, y1)) 53))
      have HO2 := Lib.hid (HO.out.drew.alloc (.cells (sC (x0, x1, y0, y1)) 53))
      have HX2 := Lib.hid (seesE_new elSegment wr.drew (x0, x1, y0, y1) (sC (x0, x1, y0, y1)) 53 (wr.drew.heap.size + 1) (Nat.lt_succ_self _) rfl)
      have hrem : ((j : Int) + 1).tmod (l.length : Int) = (k : Int) := by
        rw [Int.tmod_eq_emod_of_nonneg (by omega)]; exact_mod_cast hk
      clear hx hy hk
      go_wp2
      go_region_held3 (fun w' => w'.cell? ⟨b, off + j * 2, none⟩ = some (.int .i64 x0) ∧ w'.cell? ⟨b, off + j * 2 + 1, none⟩ = some (.int .i64 x1) ∧ w'.cell? ⟨b, off + k * 2, none⟩ = some (.int .i64 y0) ∧ w'.cell? ⟨b, off + k * 2 + 1, none⟩ = some (.int .i64 y1)) (first | with_reducible exact ⟨k0, k1, k2, k3⟩ | with_reducible exact HQ1.out | with_reducible exact HQ2.out | exact ⟨keepAr k0 _, keepAr k1 _, keepAr k2 _, keepAr k3 _⟩ | with_reducible exact hc4.out) (first
        | (refine stepSg (wr.drew.alloc (.cells (sC (x0, x1, y0, y1)) 53)) _ _ (by rfl) w.heap.size (.slice A1 L.length c1) L (by rfl) HO2.out (wr.drew.heap.size + 1) (some ⟨wr.drew.heap.size, 0, none⟩) 1 1 [(x0, x1, y0, y1)] (by rfl) (by rfl) HX2.out hone HB2.out.size ?_; intro A4 c4 L4 w4 hL4 h1 h2 ho4 hb4; have hc4 := Lib.hid (And.intro ((hb4.cell (p := ⟨b, off + j * 2, none⟩) hbl).trans HQ2.out.1) (And.intro ((hb4.cell (p := ⟨b, off + j * 2 + 1, none⟩) hbl).trans HQ2.out.2.1) (And.intro ((hb4.cell (p := ⟨b, off + k * 2, none⟩) hbl).trans HQ2.out.2.2.1) ((hb4.cell (p := ⟨b, off + k * 2 + 1, none⟩) hbl).trans HQ2.out.2.2.2))))) | fail)
      go_wp2
      go_roundw
      case rel => exact ⟨A4, c4, L4, j + 1, rfl, by go_num, by omega, Lib.hid (rgs_step hL.out hL4.out HJ.out), Lib.hid (by have := HN.out; simp at h1 h2; omega), Lib.hid ho4, Lib.hid (HB2.out.trans hb4)⟩
      case measure => simp [intOf]; omega
    · obtain rfl : j = l.length := by omega
      go_wp2
      go_ret
      exact ⟨A1, c1, L, Lib.hid (by rw [hL.out, List.take_of_length_le (by omega)]), rfl, HO.out, HB.out⟩
end Go.Proofs.YtbnjaaegbmhopaaDoor
