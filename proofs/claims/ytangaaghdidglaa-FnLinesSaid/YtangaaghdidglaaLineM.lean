/- Lines: IsSimple of package impl. -/
import Derived.Test.YtangaaghdidglaaLineS3
import Derived.Test.YtangaaghdidglaaLineL
namespace Go.Proofs.Ytangaaghdidglaa
open Go.ChangeShapes Go.WideShapes Go.ChangeAt Go.RowKit
set_option linter.unusedVariables false

set_option maxRecDepth 100000 in
set_option maxHeartbeats 4000000 in
theorem meetRightly_is (Bs b off c1 B i j : Nat) (L : List (Int × Int × Int × Int)) (u v : Int × Int × Int × Int) (w : World) (hBs : w.cell? ⟨Bs, 0, none⟩ = some (.slice (some ⟨b, off, none⟩) L.length c1)) (hs : SeesE 4 encSegment w B (some ⟨b, off, none⟩) L) (h9 : L.length ≤ 9)
    (hu : L[i]? = some u) (hv : L[j]? = some v) (z : Bool) (hz : decide (howS u v = wantS i j) = z) :
    Calls Try.prog 42 #[.int .i64 i, .int .i64 j, .pointer (some ⟨Bs, 0, none⟩)] w fun e w' => e = .returned (.bool z) ∧ Below w.heap.size w w' := by
  have hil := (List.getElem?_eq_some_iff.1 hu).1
  have hjl := (List.getElem?_eq_some_iff.1 hv).1
  have hil' : (i : Int) < (L.length : Int) := by omega
  have hjl' : (j : Int) < (L.length : Int) := by omega
  obtain ⟨k0, k1, k2, k3⟩ := cells4 hs hu
  obtain ⟨k4, k5, k6, k7⟩ := cells4 hs hv
  obtain ⟨m, hm⟩ : ∃ m, howS u v = m := ⟨_, rfl⟩
  clear hu hv hs
  go_enter Try.func42, Try.ntmps42
  go_wp2
  go_region_held3 (fun w' => w'.cell? ⟨Bs, 0, none⟩ = some (.slice (some ⟨b, off, none⟩) L.length c1) ∧ (w'.cell? ⟨b, off + i * 4, none⟩ = some (.int .i64 u.1) ∧ w'.cell? ⟨b, off + i * 4 + 1, none⟩ = some (.int .i64 u.2.1) ∧ w'.cell? ⟨b, off + i * 4 + 2, none⟩ = some (.int .i64 u.2.2.1) ∧ w'.cell? ⟨b, off + i * 4 + 3, none⟩ = some (.int .i64 u.2.2.2)) ∧ (w'.cell? ⟨b, off + j * 4, none⟩ = some (.int .i64 v.1) ∧ w'.cell? ⟨b, off + j * 4 + 1, none⟩ = some (.int .i64 v.2.1) ∧ w'.cell? ⟨b, off + j * 4 + 2, none⟩ = some (.int .i64 v.2.2.1) ∧ w'.cell? ⟨b, off + j * 4 + 3, none⟩ = some (.int .i64 v.2.2.2))) (first | exact ⟨hBs, ⟨k0, k1, k2, k3⟩, ⟨k4, k5, k6, k7⟩⟩ | exact hQ) (first
    | (go_at_call 43; refine (howS_is u v _ _ hm).mono ?_; rintro e w9 ⟨rfl, hb9⟩; have hb9' := Lib.hid hb9; have hQ := And.intro ((hb9.cell (World.block_lt_of_cell? _ _ hBs)).trans hBs) (And.intro (And.intro ((hb9.cell (World.block_lt_of_cell? _ _ k0)).trans k0) (And.intro ((hb9.cell (World.block_lt_of_cell? _ _ k1)).trans k1) (And.intro ((hb9.cell (World.block_lt_of_cell? _ _ k2)).trans k2) ((hb9.cell (World.block_lt_of_cell? _ _ k3)).trans k3)))) (And.intro ((hb9.cell (World.block_lt_of_cell? _ _ k4)).trans k4) (And.intro ((hb9.cell (World.block_lt_of_cell? _ _ k5)).trans k5) (And.intro ((hb9.cell (World.block_lt_of_cell? _ _ k6)).trans k6) ((hb9.cell (World.block_lt_of_cell? _ _ k7)).trans k7)))))) | fail)
  all_goals
    by_cases he : i + 1 = j
    · have he' : (i : Int) + 1 = (j : Int) := by omega
      rw [hm, show wantS i j = 1 from if_pos he] at hz
      by_cases h1 : m = 1
      · subst h1
        obtain rfl : z = true := by rw [← hz]; rfl
        go_wp2
        go_ret
        exact ⟨rfl, (Below.refl _ w).drew.trans hb9⟩
      · obtain rfl : z = false := by rw [← hz, decide_eq_false h1]
        go_wp2
        go_ret
        exact ⟨by simp [h1], (Below.refl _ w).drew.trans hb9⟩
    · have he' : ¬ ((i : Int) + 1 = (j : Int)) := by omega
      rw [hm, show wantS i j = 0 from if_neg he] at hz
      by_cases h1 : m = 0
      · subst h1
        obtain rfl : z = true := by rw [← hz]; rfl
        go_wp2
        go_ret
        exact ⟨rfl, (Below.refl _ w).drew.trans hb9⟩
      · obtain rfl : z = false := by rw [← hz, decide_eq_false h1]
        go_wp2
        go_ret
        exact ⟨by simp [h1], (Below.refl _ w).drew.trans hb9⟩
set_option maxRecDepth 100000 in
set_option maxHeartbeats 4000000 in
theorem isSimple_is (A : Option Addr) (c : Nat) (l : List (Int × Int)) (w : World) (hs : SeesE 2 encPoint w w.heap.size A l) (hl : l.length ≤ 1099511627776) (z : Bool) (hz : smpV l = z) :
    Calls Try.prog 15 #[.slice A l.length c] w fun e w' => e = .returned (.bool z) ∧ Below w.heap.size w w' := by
  have HS := Lib.hid hs; clear hs
  go_enter Try.func15, Try.ntmps15
  go_wp2_with (go_at_call 20; refine (segmentsOf_any A c l _ HS.out hl).mono ?_; rintro e w1 ⟨A1, c1, L, hL, rfl, ho1, hb1⟩)
  have HO1 := Lib.hid (ho1.alloc (.cells #[.slice A1 L.length c1] 33))
  have HB1 := Lib.hid (hb1.alloc hb1.size (.cells #[.slice A1 L.length c1] 33))
  have HX1 := Lib.hid (Boxed.new w1 33 (.slice A1 L.length c1))
  have h9 : L.length ≤ 9 := by rw [hL.out]; exact sgV_len l
  have HL := hL
  have HZ := Lib.hid hz
  clear ho1 hb1 hL hz
  generalize w1.heap.size = Bs at HX1 ⊢
  generalize w1.alloc (.cells #[.slice A1 L.length c1] 33) = w2 at HO1 HB1 HX1 ⊢
  go_loopw [12] (fun i wr => ∃ j : Nat, j ≤ L.length ∧ i = .int .i64 j ∧ Hid (∀ k, k < j → ∀ i, i < k → mtOk (sgV l) i k = true) ∧ Hid (OwnE 4 encSegment wr w.heap.size 38 (.slice A1 L.length c1) L) ∧ Hid (Boxed wr Bs 33 (.slice A1 L.length c1)) ∧ Hid (Below w.heap.size w wr)) (fun i _ => L.length - (intOf i).toNat)
  case atStart => exact ⟨0, Nat.zero_le _, rfl, Lib.hid (fun k hk => by omega), HO1, HX1, HB1⟩
  case round =>
    obtain ⟨i, hi, rfl, hp, HO, HX, HB⟩ := hrel
    clear HO1 HX1 HB1
    by_cases hlt : i < L.length
    · have hli : (i : Int) < (L.length : Int) := by omega
      go_wp2
      go_loopw [16] (fun k wx => ∃ j : Nat, j ≤ i ∧ k = .int .i64 j ∧ Hid (∀ q, q < j → mtOk (sgV l) q i = true) ∧ Hid (OwnE 4 encSegment wx w.heap.size 38 (.slice A1 L.length c1) L) ∧ Hid (Boxed wx Bs 33 (.slice A1 L.length c1)) ∧ Hid (Below w.heap.size w wx)) (fun k _ => i - (intOf k).toNat)
      case atStart => exact ⟨0, Nat.zero_le _, rfl, Lib.hid (fun k hk => by omega), HO, HX, HB⟩
      case round =>
        obtain ⟨j, hj, rfl, hq, HO, HX, HB⟩ := hrel
        by_cases hlj : j < i
        · have hlj' : (j : Int) < (i : Int) := by omega
          obtain ⟨b, off, v, rfl, hbl, hv, -⟩ := (HO.out.sees elSegment).lt hlt
          obtain ⟨u, hu⟩ : ∃ u, L[j]? = some u := ⟨_, List.getElem?_eq_getElem (by omega)⟩
          have HU := Lib.hid hu; have HV := Lib.hid hv
          have HU' : Hid ((sgV l)[j]? = some u) := Lib.hid (by rw [← HL.out]; exact hu)
          have HV' : Hid ((sgV l)[i]? = some v) := Lib.hid (by rw [← HL.out]; exact hv)
          clear hu hv
          cases hd : decide (howS u v = wantS j i)
          · obtain rfl : z = false := HZ.out.symm.trans (smp_no HU'.out HV'.out hlj (of_decide_eq_false hd))
            go_wp2_with (go_at_call 42; refine (meetRightly_is Bs b off c1 _ j i L u v _ HX.out.cell (HO.out.sees elSegment) h9 HU.out HV.out _ hd).mono ?_; rintro e w9 ⟨rfl, hb9⟩)
            go_ret
            exact ⟨rfl, HB.out.trans (hb9.mono HB.out.size)⟩
          · go_wp2_with (go_at_call 42; refine (meetRightly_is Bs b off c1 _ j i L u v _ HX.out.cell (HO.out.sees elSegment) h9 HU.out HV.out _ hd).mono ?_; rintro e w9 ⟨rfl, hb9⟩)
            go_roundw
            case rel => exact ⟨j + 1, by omega, by go_num, Lib.hid (upto_step hq.out (smp_ok HU'.out HV'.out (of_decide_eq_true hd))), Lib.hid (HO.out.belowAll hb9), Lib.hid (boxed_call HX.out hb9), Lib.hid (HB.out.trans (hb9.mono HB.out.size))⟩
            case measure => simp [intOf]; omega
        · obtain rfl : j = i := by omega
          go_wp2
          go_roundw
          case rel => exact ⟨j + 1, by omega, by go_num, Lib.hid (upto_step hp.out hq.out), HO, HX, HB⟩
          case measure => simp [intOf]; omega
    · obtain rfl : i = L.length := by omega
      have cX := HX.out.cell
      obtain rfl : decide ((0 : Int) < (L.length : Int)) = z := by rw [HL.out] at hp ⊢; rw [sgV_pos_iff]; exact (smp_all hp.out).trans HZ.out
      go_wp2
      go_ret
      exact ⟨by simp, HB.out⟩
end Go.Proofs.Ytangaaghdidglaa
