/- Lines: IsSimple and LinesMeet of the model. -/
import Derived.Test.YtkeljibnjpinlaaLineS2
import Derived.Test.YtkeljibnjpinlaaSegCall
namespace Go.Proofs.Ytkeljibnjpinlaa
open Go.ChangeShapes Go.WideShapes Go.ChangeAt Go.RowKit
set_option linter.unusedVariables false

set_option maxRecDepth 100000 in
set_option maxHeartbeats 8000000 in
theorem sIsSimple_is (A : Option Addr) (c : Nat) (l : List (Int × Int)) (w : World) (hs : SeesE 2 encPoint w w.heap.size A l) (hl : l.length ≤ 1099511627776) (z : Bool) (hz : smpV l = z) :
    Calls Try.prog 18 #[.slice A l.length c] w fun e w' => e = .returned (.bool z) ∧ Below w.heap.size w w' := by
  have HS := Lib.hid hs; clear hs
  go_enter Try.func18, Try.ntmps18
  go_wp2_with (go_at_call 40; refine (sSegmentsOf_any A c l _ HS.out hl).mono ?_; rintro e w1 ⟨A1, c1, L, hL, rfl, ho1, hb1⟩)
  have HO1 := Lib.hid ho1; have HB1 := Lib.hid hb1
  have h9 : L.length ≤ 9 := by rw [hL.out]; exact sgV_len l
  have HL := hL
  have HZ := Lib.hid hz
  clear ho1 hb1 hL hz
  go_loopw [4] (fun i wr => ∃ j : Nat, j ≤ L.length ∧ i = .int .i64 j ∧ Hid (∀ k, k < j → ∀ i, i < k → mtOk (sgV l) i k = true) ∧ Hid (OwnE 4 encSegment wr w.heap.size 38 (.slice A1 L.length c1) L) ∧ Hid (Below w.heap.size w wr)) (fun i _ => L.length - (intOf i).toNat)
  case atStart => exact ⟨0, Nat.zero_le _, rfl, Lib.hid (fun k hk => by omega), HO1, HB1⟩
  case round =>
    obtain ⟨i, hi, rfl, hp, HO, HB⟩ := hrel
    clear HO1 HB1
    by_cases hlt : i < L.length
    · have hli : (i : Int) < (L.length : Int) := by omega
      go_wp2
      go_loopw [5] (fun k wx => ∃ j : Nat, j ≤ i ∧ k = .int .i64 j ∧ Hid (∀ q, q < j → mtOk (sgV l) q i = true) ∧ Hid (OwnE 4 encSegment wx w.heap.size 38 (.slice A1 L.length c1) L) ∧ Hid (Below w.heap.size w wx)) (fun k _ => i - (intOf k).toNat)
      case atStart => exact ⟨0, Nat.zero_le _, rfl, Lib.hid (fun k hk => by omega), HO, HB⟩
      case round =>
        obtain ⟨j, hj, rfl, hq, HO, HB⟩ := hrel
        by_cases hlj : j < i
        · have hlj' : (j : Int) < (L.length : Int) := by omega
          obtain ⟨b, off, v, rfl, hbl, hv, -⟩ := (HO.out.sees elSegment).lt hlt
          obtain ⟨u, hu⟩ : ∃ u, L[j]? = some u := ⟨_, List.getElem?_eq_getElem (by omega)⟩
          obtain ⟨k0, k1, k2, k3⟩ := cells4 (HO.out.sees elSegment) hu
          obtain ⟨k4, k5, k6, k7⟩ := cells4 (HO.out.sees elSegment) hv
          have HU := Lib.hid hu; have HV := Lib.hid hv
          have HU' : Hid ((sgV l)[j]? = some u) := Lib.hid (by rw [← HL.out]; exact hu)
          have HV' : Hid ((sgV l)[i]? = some v) := Lib.hid (by rw [← HL.out]; exact hv)
          clear hu hv
          obtain ⟨m, hm⟩ : ∃ m, howS v u = m := ⟨_, rfl⟩
          have HM : Hid (howS u v = m) := Lib.hid (by rw [← hm]; exact howS_comm v u)
          by_cases he : j + 1 = i
          · have he' : (j : Int) + 1 = (i : Int) := by omega
            have HWn : Hid (wantS j i = 1) := Lib.hid (if_pos he)
            by_cases h1 : m = 1
            · subst h1
              go_wp2
              go_region_held3 (fun w' => (w'.cell? ⟨b, off + j * 4, none⟩ = some (.int .i64 u.1) ∧ w'.cell? ⟨b, off + j * 4 + 1, none⟩ = some (.int .i64 u.2.1) ∧ w'.cell? ⟨b, off + j * 4 + 2, none⟩ = some (.int .i64 u.2.2.1) ∧ w'.cell? ⟨b, off + j * 4 + 3, none⟩ = some (.int .i64 u.2.2.2)) ∧ (w'.cell? ⟨b, off + i * 4, none⟩ = some (.int .i64 v.1) ∧ w'.cell? ⟨b, off + i * 4 + 1, none⟩ = some (.int .i64 v.2.1) ∧ w'.cell? ⟨b, off + i * 4 + 2, none⟩ = some (.int .i64 v.2.2.1) ∧ w'.cell? ⟨b, off + i * 4 + 3, none⟩ = some (.int .i64 v.2.2.2))) (first | exact ⟨⟨k0, k1, k2, k3⟩, ⟨k4, k5, k6, k7⟩⟩ | exact hQ) (first
                | (go_at_call 41; refine (sHowS_is v u _ _ hm).mono ?_; rintro e w9 ⟨rfl, hb9⟩; have HB9 := Lib.hid (HB.out.drew.trans (hb9.mono HB.out.size)); have HO9 := Lib.hid ((HO.out.drew).belowAll hb9); have hQ := And.intro (cells4 (HO9.out.sees elSegment) HU.out) (cells4 (HO9.out.sees elSegment) HV.out)) | fail)
              all_goals
                go_wp2
                go_roundw
                case rel => exact ⟨j + 1, by omega, by go_num, Lib.hid (upto_step hq.out (smp_ok HU'.out HV'.out (HM.out.trans HWn.out.symm))), HO9, HB9⟩
                case measure => simp [intOf]; omega
            · obtain rfl : z = false := HZ.out.symm.trans (smp_no HU'.out HV'.out hlj (by rw [HM.out, HWn.out]; exact h1))
              go_wp2
              go_region_held3 (fun w' => (w'.cell? ⟨b, off + j * 4, none⟩ = some (.int .i64 u.1) ∧ w'.cell? ⟨b, off + j * 4 + 1, none⟩ = some (.int .i64 u.2.1) ∧ w'.cell? ⟨b, off + j * 4 + 2, none⟩ = some (.int .i64 u.2.2.1) ∧ w'.cell? ⟨b, off + j * 4 + 3, none⟩ = some (.int .i64 u.2.2.2)) ∧ (w'.cell? ⟨b, off + i * 4, none⟩ = some (.int .i64 v.1) ∧ w'.cell? ⟨b, off + i * 4 + 1, none⟩ = some (.int .i64 v.2.1) ∧ w'.cell? ⟨b, off + i * 4 + 2, none⟩ = some (.int .i64 v.2.2.1) ∧ w'.cell? ⟨b, off + i * 4 + 3, none⟩ = some (.int .i64 v.2.2.2))) (first | exact ⟨⟨k0, k1, k2, k3⟩, ⟨k4, k5, k6, k7⟩⟩ | exact hQ) (first
                | (go_at_call 41; refine (sHowS_is v u _ _ hm).mono ?_; rintro e w9 ⟨rfl, hb9⟩; have HB9 := Lib.hid (HB.out.drew.trans (hb9.mono HB.out.size)); have HO9 := Lib.hid ((HO.out.drew).belowAll hb9); have hQ := And.intro (cells4 (HO9.out.sees elSegment) HU.out) (cells4 (HO9.out.sees elSegment) HV.out)) | fail)
              all_goals
                go_wp2
                go_ret
                exact ⟨rfl, HB9.out⟩
          · have he' : ¬ ((j : Int) + 1 = (i : Int)) := by omega
            have HWn : Hid (wantS j i = 0) := Lib.hid (if_neg he)
            by_cases h1 : m = 0
            · subst h1
              go_wp2
              go_region_held3 (fun w' => (w'.cell? ⟨b, off + j * 4, none⟩ = some (.int .i64 u.1) ∧ w'.cell? ⟨b, off + j * 4 + 1, none⟩ = some (.int .i64 u.2.1) ∧ w'.cell? ⟨b, off + j * 4 + 2, none⟩ = some (.int .i64 u.2.2.1) ∧ w'.cell? ⟨b, off + j * 4 + 3, none⟩ = some (.int .i64 u.2.2.2)) ∧ (w'.cell? ⟨b, off + i * 4, none⟩ = some (.int .i64 v.1) ∧ w'.cell? ⟨b, off + i * 4 + 1, none⟩ = some (.int .i64 v.2.1) ∧ w'.cell? ⟨b, off + i * 4 + 2, none⟩ = some (.int .i64 v.2.2.1) ∧ w'.cell? ⟨b, off + i * 4 + 3, none⟩ = some (.int .i64 v.2.2.2))) (first | exact ⟨⟨k0, k1, k2, k3⟩, ⟨k4, k5, k6, k7⟩⟩ | exact hQ) (first
                | (go_at_call 41; refine (sHowS_is v u _ _ hm).mono ?_; rintro e w9 ⟨rfl, hb9⟩; have HB9 := Lib.hid (HB.out.drew.trans (hb9.mono HB.out.size)); have HO9 := Lib.hid ((HO.out.drew).belowAll hb9); have hQ := And.intro (cells4 (HO9.out.sees elSegment) HU.out) (cells4 (HO9.out.sees elSegment) HV.out)) | fail)
              all_goals
                go_wp2
                go_roundw
                case rel => exact ⟨j + 1, by omega, by go_num, Lib.hid (upto_step hq.out (smp_ok HU'.out HV'.out (HM.out.trans HWn.out.symm))), HO9, HB9⟩
                case measure => simp [intOf]; omega
            · obtain rfl : z = false := HZ.out.symm.trans (smp_no HU'.out HV'.out hlj (by rw [HM.out, HWn.out]; exact h1))
              go_wp2
              go_region_held3 (fun w' => (w'.cell? ⟨b, off + j * 4, none⟩ = some (.int .i64 u.1) ∧ w'.cell? ⟨b, off + j * 4 + 1, none⟩ = some (.int .i64 u.2.1) ∧ w'.cell? ⟨b, off + j * 4 + 2, none⟩ = some (.int .i64 u.2.2.1) ∧ w'.cell? ⟨b, off + j * 4 + 3, none⟩ = some (.int .i64 u.2.2.2)) ∧ (w'.cell? ⟨b, off + i * 4, none⟩ = some (.int .i64 v.1) ∧ w'.cell? ⟨b, off + i * 4 + 1, none⟩ = some (.int .i64 v.2.1) ∧ w'.cell? ⟨b, off + i * 4 + 2, none⟩ = some (.int .i64 v.2.2.1) ∧ w'.cell? ⟨b, off + i * 4 + 3, none⟩ = some (.int .i64 v.2.2.2))) (first | exact ⟨⟨k0, k1, k2, k3⟩, ⟨k4, k5, k6, k7⟩⟩ | exact hQ) (first
                | (go_at_call 41; refine (sHowS_is v u _ _ hm).mono ?_; rintro e w9 ⟨rfl, hb9⟩; have HB9 := Lib.hid (HB.out.drew.trans (hb9.mono HB.out.size)); have HO9 := Lib.hid ((HO.out.drew).belowAll hb9); have hQ := And.intro (cells4 (HO9.out.sees elSegment) HU.out) (cells4 (HO9.out.sees elSegment) HV.out)) | fail)
              all_goals
                go_wp2
                go_ret
                exact ⟨rfl, HB9.out⟩
        · obtain rfl : j = i := by omega
          go_wp2
          go_roundw
          case rel => exact ⟨j + 1, by omega, by go_num, Lib.hid (upto_step hp.out hq.out), HO, HB⟩
          case measure => simp [intOf]; omega
    · obtain rfl : i = L.length := by omega
      go_wp2_with (go_at_call 42; refine (sIsLine_is A c l _ ((HS.out.below HB.out).mono HB.out.size) hl z ?_).mono ?_)
      · rw [HL.out] at hp; exact (smp_all hp.out).trans HZ.out
      · rintro e w9 ⟨rfl, hb9⟩
        go_wp2
        go_ret
        exact ⟨rfl, HB.out.trans (hb9.mono HB.out.size)⟩
theorem mxS_step {n : Int} {s : Int × Int × Int × Int} {T : List (Int × Int × Int × Int)} {j : Nat} {x : Int × Int × Int × Int} (hx : T[j]? = some x) : extV true (mxS n s (T.take j)) (howS s x) = mxS n s (T.take (j + 1)) := by
  rw [List.take_add_one, hx]; exact (mxS_snoc _ _ _ _).symm
theorem mtV_step {S T : List (Int × Int × Int × Int)} {i : Nat} {u : Int × Int × Int × Int} (hu : S[i]? = some u) : mxS (mtV (S.take i) T) u T = mtV (S.take (i + 1)) T := by
  rw [List.take_add_one, hu]; exact (mtV_snoc _ _ _).symm
end Go.Proofs.Ytkeljibnjpinlaa
