/- For every code, the line that is drawn from it is made simpler without a new meeting, keeps its ends, and no corner is left that is small and can be dropped; a point that is dropped is one. -/
import Derived.Test.YtbnjaaegbmhopaaLineS2
import Derived.Test.YtbnjaaegbmhopaaSegCall
import Derived.Test.YtbnjaaegbmhopaaSafeS
import Derived.Test.YtbnjaaegbmhopaaLs
import Derived.Deep.DeepCutAuto
import Derived.Test.YtbnjaaegbmhopaaLineJ
import Derived.Test.YtbnjaaegbmhopaaSafeI
import Derived.Test.YtbnjaaegbmhopaaVars2
import Derived.Test.YtbnjaaegbmhopaaOneVar
import Derived.Shelf.Abstract
import Derived.Deep.LoopGhost
import Derived.LoopTactic
import Derived.Test.YtbnjaaegbmhopaaSafeV
import Derived.Sort.LotA
import Derived.Sort.WalkA
import Derived.Test.YtbnjaaegbmhopaaShelf
import Derived.Shelf.SlSortCmp.NoneTotal
import Derived.Test.YtbnjaaegbmhopaaLine
import Derived.Test.YtbnjaaegbmhopaaHelpE
import Derived.Test.YtbnjaaegbmhopaaSimpF
import Derived.Deep.RegionHeld3
import Derived.Test.YtbnjaaegbmhopaaTabs
import Derived.Laws.StructEq
import Derived.Test.YtbnjaaegbmhopaaMem
import Derived.Test.YtbnjaaegbmhopaaDrawSafe
import Derived.Test.YtbnjaaegbmhopaaRows
import Derived.WalkKit
import Derived.ProofKit
import Derived.OpenShut
import Derived.ShutString
import Derived.ChangeOld
import Derived.Below
section
/- Lines: IsSimple and LinesMeet of the model. -/
namespace Go.Proofs.Ytbnjaaegbmhopaa
open Go.ChangeShapes Go.WideShapes Go.ChangeAt Go.RowKit
set_option linter.unusedVariables false

set_option maxRecDepth 100000 in
set_option maxHeartbeats 8000000 in
theorem sIsSimple_is (A : Option Addr) (c : Nat) (l : List (Int × Int)) (w : World) (hs : SeesE 2 encPoint w w.heap.size A l) (hl : l.length ≤ 1099511627776) (z : Bool) (hz : smpV l = z) :
    Calls Try.prog 55 #[.slice A l.length c] w fun e w' => e = .returned (.bool z) ∧ Below w.heap.size w w' := by
  have HS := Lib.hid hs; clear hs
  go_enter Try.func55, Try.ntmps55
  go_wp2_with (go_at_call 108; refine (sSegmentsOf_any A c l _ HS.out hl).mono ?_; rintro e w1 ⟨A1, c1, L, hL, rfl, ho1, hb1⟩)
  have HO1 := Lib.hid ho1; have HB1 := Lib.hid hb1
  have h9 : L.length ≤ 9 := by rw [hL.out]; exact sgV_len l
  have HL := hL
  have HZ := Lib.hid hz
  clear ho1 hb1 hL hz
  go_loopw [4] (fun i wr => ∃ j : Nat, j ≤ L.length ∧ i = .int .i64 j ∧ Hid (∀ k, k < j → ∀ i, i < k → mtOk (sgV l) i k = true) ∧ Hid (OwnE 4 encSegment wr w.heap.size 38 (.slice A1 L.length c1) L) ∧ Hid (Below w.heap.size w wr)) (fun i _ => L.length - (intOf i).toNat)
  case atStart => exact ⟨0, Nat.zero_le _, rfl, Lib.hid (fun k hk => by omega), HO1, HB1⟩
  case round =>
    obtain ⟨i, hi, rfl, hp, HO, HB⟩ := hrel
    clear HO1 HB1
    by_cases hlt : i < L.length
    · have hli : (i : Int) < (L.length : Int) := by omega
      go_wp2
      go_loopw [5] (fun k wx => ∃ j : Nat, j ≤ i ∧ k = .int .i64 j ∧ Hid (∀ q, q < j → mtOk (sgV l) q i = true) ∧ Hid (OwnE 4 encSegment wx w.heap.size 38 (.slice A1 L.length c1) L) ∧ Hid (Below w.heap.size w wx)) (fun k _ => i - (intOf k).toNat)
      case atStart => exact ⟨0, Nat.zero_le _, rfl, Lib.hid (fun k hk => by omega), HO, HB⟩
      case round =>
        obtain ⟨j, hj, rfl, hq, HO, HB⟩ := hrel
        by_cases hlj : j < i
        · have hlj' : (j : Int) < (L.length : Int) := by omega
          obtain ⟨b, off, v, rfl, hbl, hv, -⟩ := (HO.out.sees elSegment).lt hlt
          obtain ⟨u, hu⟩ : ∃ u, L[j]? = some u := ⟨_, List.getElem?_eq_getElem (by omega)⟩
          obtain ⟨k0, k1, k2, k3⟩ := cells4 (HO.out.sees elSegment) hu
          obtain ⟨k4, k5, k6, k7⟩ := cells4 (HO.out.sees elSegment) hv
          have HU := Lib.hid hu; have HV := Lib.hid hv
          have HU' : Hid ((sgV l)[j]? = some u) := Lib.hid (by rw [← HL.out]; exact hu)
          have HV' : Hid ((sgV l)[i]? = some v) := Lib.hid (by rw [← HL.out]; exact hv)
          clear hu hv
          obtain ⟨m, hm⟩ : ∃ m, howS v u = m := ⟨_, rfl⟩
          have HM : Hid (howS u v = m) := Lib.hid (by rw [← hm]; exact howS_comm v u)
          by_cases he : j + 1 = i
          · have he' : (j : Int) + 1 = (i : Int) := by omega
            have HWn : Hid (wantS j i = 1) := Lib.hid (if_pos he)
            by_cases h1 : m = 1
            · subst h1
              go_wp2
              go_region_held3 (fun w' => (w'.cell? ⟨b, off + j * 4, none⟩ = some (.int .i64 u.1) ∧ w'.cell? ⟨b, off + j * 4 + 1, none⟩ = some (.int .i64 u.2.1) ∧ w'.cell? ⟨b, off + j * 4 + 2, none⟩ = some (.int .i64 u.2.2.1) ∧ w'.cell? ⟨b, off + j * 4 + 3, none⟩ = some (.int .i64 u.2.2.2)) ∧ (w'.cell? ⟨b, off + i * 4, none⟩ = some (.int .i64 v.1) ∧ w'.cell? ⟨b, off + i * 4 + 1, none⟩ = some (.int .i64 v.2.1) ∧ w'.cell? ⟨b, off + i * 4 + 2, none⟩ = some (.int .i64 v.2.2.1) ∧ w'.cell? ⟨b, off + i * 4 + 3, none⟩ = some (.int .i64 v.2.2.2))) (first | exact ⟨⟨k0, k1, k2, k3⟩, ⟨k4, k5, k6, k7⟩⟩ | exact hQ) (first
                | (go_at_call 25; refine (sHowS_is v u _ _ hm).mono ?_; rintro e w9 ⟨rfl, hb9⟩; have HB9 := Lib.hid (HB.out.drew.trans (hb9.mono HB.out.size)); have HO9 := Lib.hid ((HO.out.drew).belowAll hb9); have hQ := And.intro (cells4 (HO9.out.sees elSegment) HU.out) (cells4 (HO9.out.sees elSegment) HV.out)) | fail)
              all_goals
                go_wp2
                go_roundw
                case rel => exact ⟨j + 1, by omega, by go_num, Lib.hid (upto_step hq.out (smp_ok HU'.out HV'.out (HM.out.trans HWn.out.symm))), HO9, HB9⟩
                case measure => simp [intOf]; omega
            · obtain rfl : z = false := HZ.out.symm.trans (smp_no HU'.out HV'.out hlj (by rw [HM.out, HWn.out]; exact h1))
              go_wp2
              go_region_held3 (fun w' => (w'.cell? ⟨b, off + j * 4, none⟩ = some (.int .i64 u.1) ∧ w'.cell? ⟨b, off + j * 4 + 1, none⟩ = some (.int .i64 u.2.1) ∧ w'.cell? ⟨b, off + j * 4 + 2, none⟩ = some (.int .i64 u.2.2.1) ∧ w'.cell? ⟨b, off + j * 4 + 3, none⟩ = some (.int .i64 u.2.2.2)) ∧ (w'.cell? ⟨b, off + i * 4, none⟩ = some (.int .i64 v.1) ∧ w'.cell? ⟨b, off + i * 4 + 1, none⟩ = some (.int .i64 v.2.1) ∧ w'.cell? ⟨b, off + i * 4 + 2, none⟩ = some (.int .i64 v.2.2.1) ∧ w'.cell? ⟨b, off + i * 4 + 3, none⟩ = some (.int .i64 v.2.2.2))) (first | exact ⟨⟨k0, k1, k2, k3⟩, ⟨k4, k5, k6, k7⟩⟩ | exact hQ) (first
                | (go_at_call 25; refine (sHowS_is v u _ _ hm).mono ?_; rintro e w9 ⟨rfl, hb9⟩; have HB9 := Lib.hid (HB.out.drew.trans (hb9.mono HB.out.size)); have HO9 := Lib.hid ((HO.out.drew).belowAll hb9); have hQ := And.intro (cells4 (HO9.out.sees elSegment) HU.out) (cells4 (HO9.out.sees elSegment) HV.out)) | fail)
              all_goals
                go_wp2
                go_ret
                exact ⟨rfl, HB9.out⟩
          · have he' : ¬ ((j : Int) + 1 = (i : Int)) := by omega
            have HWn : Hid (wantS j i = 0) := Lib.hid (if_neg he)
            by_cases h1 : m = 0
            · subst h1
              go_wp2
              go_region_held3 (fun w' => (w'.cell? ⟨b, off + j * 4, none⟩ = some (.int .i64 u.1) ∧ w'.cell? ⟨b, off + j * 4 + 1, none⟩ = some (.int .i64 u.2.1) ∧ w'.cell? ⟨b, off + j * 4 + 2, none⟩ = some (.int .i64 u.2.2.1) ∧ w'.cell? ⟨b, off + j * 4 + 3, none⟩ = some (.int .i64 u.2.2.2)) ∧ (w'.cell? ⟨b, off + i * 4, none⟩ = some (.int .i64 v.1) ∧ w'.cell? ⟨b, off + i * 4 + 1, none⟩ = some (.int .i64 v.2.1) ∧ w'.cell? ⟨b, off + i * 4 + 2, none⟩ = some (.int .i64 v.2.2.1) ∧ w'.cell? ⟨b, off + i * 4 + 3, none⟩ = some (.int .i64 v.2.2.2))) (first | exact ⟨⟨k0, k1, k2, k3⟩, ⟨k4, k5, k6, k7⟩⟩ | exact hQ) (first
                | (go_at_call 25; refine (sHowS_is v u _ _ hm).mono ?_; rintro e w9 ⟨rfl, hb9⟩; have HB9 := Lib.hid (HB.out.drew.trans (hb9.mono HB.out.size)); have HO9 := Lib.hid ((HO.out.drew).belowAll hb9); have hQ := And.intro (cells4 (HO9.out.sees elSegment) HU.out) (cells4 (HO9.out.sees elSegment) HV.out)) | fail)
              all_goals
                go_wp2
                go_roundw
                case rel => exact ⟨j + 1, by omega, by go_num, Lib.hid (upto_step hq.out (smp_ok HU'.out HV'.out (HM.out.trans HWn.out.symm))), HO9, HB9⟩
                case measure => simp [intOf]; omega
            · obtain rfl : z = false := HZ.out.symm.trans (smp_no HU'.out HV'.out hlj (by rw [HM.out, HWn.out]; exact h1))
              go_wp2
              go_region_held3 (fun w' => (w'.cell? ⟨b, off + j * 4, none⟩ = some (.int .i64 u.1) ∧ w'.cell? ⟨b, off + j * 4 + 1, none⟩ = some (.int .i64 u.2.1) ∧ w'.cell? ⟨b, off + j * 4 + 2, none⟩ = some (.int .i64 u.2.2.1) ∧ w'.cell? ⟨b, off + j * 4 + 3, none⟩ = some (.int .i64 u.2.2.2)) ∧ (w'.cell? ⟨b, off + i * 4, none⟩ = some (.int .i64 v.1) ∧ w'.cell? ⟨b, off + i * 4 + 1, none⟩ = some (.int .i64 v.2.1) ∧ w'.cell? ⟨b, off + i * 4 + 2, none⟩ = some (.int .i64 v.2.2.1) ∧ w'.cell? ⟨b, off + i * 4 + 3, none⟩ = some (.int .i64 v.2.2.2))) (first | exact ⟨⟨k0, k1, k2, k3⟩, ⟨k4, k5, k6, k7⟩⟩ | exact hQ) (first
                | (go_at_call 25; refine (sHowS_is v u _ _ hm).mono ?_; rintro e w9 ⟨rfl, hb9⟩; have HB9 := Lib.hid (HB.out.drew.trans (hb9.mono HB.out.size)); have HO9 := Lib.hid ((HO.out.drew).belowAll hb9); have hQ := And.intro (cells4 (HO9.out.sees elSegment) HU.out) (cells4 (HO9.out.sees elSegment) HV.out)) | fail)
              all_goals
                go_wp2
                go_ret
                exact ⟨rfl, HB9.out⟩
        · obtain rfl : j = i := by omega
          go_wp2
          go_roundw
          case rel => exact ⟨j + 1, by omega, by go_num, Lib.hid (upto_step hp.out hq.out), HO, HB⟩
          case measure => simp [intOf]; omega
    · obtain rfl : i = L.length := by omega
      go_wp2_with (go_at_call 109; refine (sIsLine_is A c l _ ((HS.out.below HB.out).mono HB.out.size) hl z ?_).mono ?_)
      · rw [HL.out] at hp; exact (smp_all hp.out).trans HZ.out
      · rintro e w9 ⟨rfl, hb9⟩
        go_wp2
        go_ret
        exact ⟨rfl, HB.out.trans (hb9.mono HB.out.size)⟩
theorem mxS_step {n : Int} {s : Int × Int × Int × Int} {T : List (Int × Int × Int × Int)} {j : Nat} {x : Int × Int × Int × Int} (hx : T[j]? = some x) : extV true (mxS n s (T.take j)) (howS s x) = mxS n s (T.take (j + 1)) := by
  rw [List.take_add_one, hx]; exact (mxS_snoc _ _ _ _).symm
theorem mtV_step {S T : List (Int × Int × Int × Int)} {i : Nat} {u : Int × Int × Int × Int} (hu : S[i]? = some u) : mxS (mtV (S.take i) T) u T = mtV (S.take (i + 1)) T := by
  rw [List.take_add_one, hu]; exact (mtV_snoc _ _ _).symm
set_option maxRecDepth 100000 in
set_option maxHeartbeats 8000000 in
theorem sLinesMeet_is (A A' : Option Addr) (c c' : Nat) (l l' : List (Int × Int)) (w : World) (hs : SeesE 2 encPoint w w.heap.size A l) (hs' : SeesE 2 encPoint w w.heap.size A' l') (hl : l.length ≤ 1099511627776) (hl' : l'.length ≤ 1099511627776) (z : Int) (hz : mtV (sgV l) (sgV l') = z) :
    Calls Try.prog 58 #[.slice A l.length c, .slice A' l'.length c'] w fun e w' => e = .returned (.int .i64 z) ∧ Below w.heap.size w w' := by
  have HS := Lib.hid hs; have HS' := Lib.hid hs'; clear hs hs'
  go_enter Try.func58, Try.ntmps58
  go_wp2_with fail
  refine (sSegmentsOf_any A c l _ HS.out hl).mono ?_
  rintro e w1 ⟨A1, c1, L, hL, rfl, ho1, hb1⟩
  have HO1 := Lib.hid ho1; have HB1 := Lib.hid hb1
  clear ho1 hb1
  go_wp2_with fail
  refine (sSegmentsOf_any A' c' l' _ (HS'.out.belowAll HB1.out) hl').mono ?_
  rintro e w2 ⟨A2, c2, L2, hL2, rfl, ho2, hb2⟩
  have HO2 := Lib.hid (HO1.out.belowAll hb2); have HB2 := Lib.hid (HB1.out.trans (hb2.mono HB1.out.size)); have HP2 := Lib.hid (ho2.mono HB1.out.size)
  clear ho2 hb2 HO1 HB1
  have HZ : Hid (mtV L L2 = z) := Lib.hid (by rw [hL.out, hL2.out]; exact hz)
  have h9 : L.length ≤ 9 := by rw [hL.out]; exact sgV_len l
  have h9' : L2.length ≤ 9 := by rw [hL2.out]; exact sgV_len l'
  clear hz hL hL2
  go_wp2
  go_loopw [5, 8] (fun n i wr => ∃ j : Nat, j ≤ L.length ∧ n = .int .i64 (mtV (L.take j) L2) ∧ i = .int .i64 j ∧ Hid (OwnE 4 encSegment wr w.heap.size 38 (.slice A1 L.length c1) L) ∧ Hid (OwnE 4 encSegment wr w.heap.size 38 (.slice A2 L2.length c2) L2) ∧ Hid (Below w.heap.size w wr)) (fun _ i _ => L.length - (intOf i).toNat)
  case atStart => exact ⟨0, Nat.zero_le _, rfl, rfl, HO2, HP2, HB2⟩
  case round =>
    obtain ⟨i, hi, rfl, rfl, HO, HP, HB⟩ := hrel
    clear HO2 HP2 HB2
    by_cases hlt : i < L.length
    · have hli : (i : Int) < (L.length : Int) := by omega
      obtain ⟨u, hu⟩ : ∃ u, L[i]? = some u := ⟨_, List.getElem?_eq_getElem hlt⟩
      obtain ⟨N, hN⟩ : ∃ N, mtV (L.take i) L2 = N := ⟨_, rfl⟩
      have HT : Hid (mxS N u L2 = mtV (L.take (i + 1)) L2) := Lib.hid (by rw [← hN]; exact mtV_step hu)
      have HU := Lib.hid hu
      rw [hN]
      clear hu hN
      go_wp2
      go_loopw [5, 9] (fun n k wx => ∃ j : Nat, j ≤ L2.length ∧ n = .int .i64 (mxS N u (L2.take j)) ∧ k = .int .i64 j ∧ Hid (OwnE 4 encSegment wx w.heap.size 38 (.slice A1 L.length c1) L) ∧ Hid (OwnE 4 encSegment wx w.heap.size 38 (.slice A2 L2.length c2) L2) ∧ Hid (Below w.heap.size w wx)) (fun _ k _ => L2.length - (intOf k).toNat)
      case atStart => exact ⟨0, Nat.zero_le _, rfl, rfl, HO, HP, HB⟩
      case round =>
        obtain ⟨j, hj, rfl, rfl, HO, HP, HB⟩ := hrel
        by_cases hlj : j < L2.length
        · have hlj' : (j : Int) < (L2.length : Int) := by omega
          obtain ⟨b, off, -, rfl, hbl, -, -⟩ := (HO.out.sees elSegment).lt hlt
          obtain ⟨b', off', v, rfl, hbl', hv, -⟩ := (HP.out.sees elSegment).lt hlj
          obtain ⟨k0, k1, k2, k3⟩ := cells4 (HO.out.sees elSegment) HU.out
          obtain ⟨k4, k5, k6, k7⟩ := cells4 (HP.out.sees elSegment) hv
          have HV := Lib.hid hv
          obtain ⟨M, hM⟩ : ∃ M, mxS N u (L2.take j) = M := ⟨_, rfl⟩
          obtain ⟨m, hm⟩ : ∃ m, howS u v = m := ⟨_, rfl⟩
          have HX : Hid (extV true M m = mxS N u (L2.take (j + 1))) := Lib.hid (by rw [← hM, ← hm]; exact mxS_step hv)
          rw [hM]
          clear hv hM
          obtain ⟨x, hx⟩ : ∃ x, extV true M m = x := ⟨_, rfl⟩
          rw [hx] at HX
          go_wp2
          go_region_held3 (fun w' => (w'.cell? ⟨b, off + i * 4, none⟩ = some (.int .i64 u.1) ∧ w'.cell? ⟨b, off + i * 4 + 1, none⟩ = some (.int .i64 u.2.1) ∧ w'.cell? ⟨b, off + i * 4 + 2, none⟩ = some (.int .i64 u.2.2.1) ∧ w'.cell? ⟨b, off + i * 4 + 3, none⟩ = some (.int .i64 u.2.2.2)) ∧ (w'.cell? ⟨b', off' + j * 4, none⟩ = some (.int .i64 v.1) ∧ w'.cell? ⟨b', off' + j * 4 + 1, none⟩ = some (.int .i64 v.2.1) ∧ w'.cell? ⟨b', off' + j * 4 + 2, none⟩ = some (.int .i64 v.2.2.1) ∧ w'.cell? ⟨b', off' + j * 4 + 3, none⟩ = some (.int .i64 v.2.2.2))) (first | exact ⟨⟨k0, k1, k2, k3⟩, ⟨k4, k5, k6, k7⟩⟩ | exact hQ | exact hQ2) (first
            | (go_at_call 25; refine (sHowS_is u v _ _ hm).mono ?_; rintro e w9 ⟨rfl, hb9⟩; have HB9 := Lib.hid (HB.out.drew.trans (hb9.mono HB.out.size)); have HO9 := Lib.hid ((HO.out.drew).belowAll hb9); have HP9 := Lib.hid ((HP.out.drew).belowAll hb9); have hQ := And.intro (cells4 (HO9.out.sees elSegment) HU.out) (cells4 (HP9.out.sees elSegment) HV.out))
            | (go_at_call 82; refine (smax_is M m x _ hx).mono ?_; rintro e w8 ⟨rfl, hb8⟩; have HB8 := Lib.hid (HB9.out.trans (hb8.mono HB9.out.size)); have HO8 := Lib.hid (HO9.out.belowAll hb8); have HP8 := Lib.hid (HP9.out.belowAll hb8); have hQ2 := And.intro (cells4 (HO8.out.sees elSegment) HU.out) (cells4 (HP8.out.sees elSegment) HV.out)) | fail)
          all_goals
            go_wp2
            go_roundw
            case rel => exact ⟨j + 1, by omega, by rw [← HX.out], by go_num, HO8, HP8, HB8⟩
            case measure => simp [intOf]; omega
        · obtain rfl : j = L2.length := by omega
          rw [List.take_length]
          go_wp2
          go_roundw
          case rel => exact ⟨i + 1, by omega, by rw [← HT.out], by go_num, HO, HP, HB⟩
          case measure => simp [intOf]; omega
    · obtain rfl : i = L.length := by omega
      rw [List.take_length]
      go_wp2
      go_ret
      exact ⟨by rw [← HZ.out]; rfl, HB.out⟩
end Go.Proofs.Ytbnjaaegbmhopaa
end
section
/- Lines that never cross: CanDrop and MeetsAll of the model. -/
namespace Go.Proofs.Ytbnjaaegbmhopaa
open Go.ChangeShapes Go.WideShapes Go.ChangeAt Go.RowKit
set_option linter.unusedVariables false

theorem noMt_take {d l : List (Int × Int)} {O : List (List (Int × Int))} {j : Nat} {p : List (Int × Int)} (h : O[j]? = some p) : noMtB d l (O.take (j + 1)) = (noMtB d l (O.take j) && decide (mtL d p ≤ mtL l p)) := by
  unfold noMtB
  rw [takeLs h, List.all_append]
  simp
theorem noMt_stop {d l : List (Int × Int)} {O : List (List (Int × Int))} {j : Nat} {p : List (Int × Int)} (h : O[j]? = some p) (hn : ¬ mtL d p ≤ mtL l p) : noMtB d l O = false := by
  unfold noMtB
  rw [List.all_eq_false]
  exact ⟨p, List.mem_of_getElem? h, by simpa using hn⟩
theorem mts_take {l : List (Int × Int)} {O : List (List (Int × Int))} {j : Nat} {p : List (Int × Int)} (h : O[j]? = some p) : mtsV l (O.take (j + 1)) = mtsV l (O.take j) ++ [mtL l p] := by
  unfold mtsV
  rw [takeLs h, List.map_append]; rfl
theorem mtsV_len (l : List (Int × Int)) (O : List (List (Int × Int))) : (mtsV l O).length = O.length := by simp [mtsV]
end Go.Proofs.Ytbnjaaegbmhopaa
end
section
/- Lines: slices.AppendSeq over the iterator, and SegmentsOf of package impl. -/
namespace Go.Proofs.Ytbnjaaegbmhopaa
open Go.ChangeShapes Go.WideShapes Go.ChangeAt Go.RowKit Go.Shelf
set_option linter.unusedVariables false
attribute [local go_sem] Oper.semAt_some

theorem newSeg_cells (W : World) (x : Int × Int × Int × Int) (T : TypeId) : ∀ j u, (encSegment x)[j]? = some u → (W.alloc (.cells (sC x) T)).cell? ((⟨W.heap.size, 0, none⟩ : Addr).add j) = some u := fun j u hu => by
  rw [add_none]
  have := (Laid.new W T (sC x)).cell (k := j) (v := u) (by rw [← hu]; exact List.getElem?_toArray)
  simpa using this
theorem cellsSeg_snoc (pre : List (Int × Int × Int × Int)) (x : Int × Int × Int × Int) : cellsE encSegment (pre ++ [x]) = cellsE encSegment pre ++ encSegment x := by rw [cellsE_app]; simp [cellsE]
set_option maxRecDepth 100000 in
set_option maxHeartbeats 4000000 in
theorem appendSeq_any (Bx M n0 c1 : Nat) (A1 : Option Addr) (l : List (Int × Int)) (v0 : Value) (w : World) (bA : Boxed w Bx 47 (.slice A1 l.length c1)) (hs : SeesE 2 encPoint w M A1 l) (hMn : M ≤ n0) (hn0 : n0 ≤ w.heap.size) (hl : l.length ≤ 1000)
    (ho : OwnE 4 encSegment w n0 38 v0 []) :
    Calls Try.prog 94 #[v0, .func (.func 119) #[] #[.pointer (some ⟨Bx, 0, none⟩)]] w fun e w' => ∃ v, e = .returned v ∧ OwnE 4 encSegment w' n0 38 v (jts l) ∧ Below n0 w w' := by
  have HO := Lib.hid ho
  refine (callsIn_wide (n := 8)).1 ?_
  refine callsIn_of_wp_marks Try.func94 rfl trivial ?_ rfl
  simp only [Try.ntmps94, List.size_toArray, List.length_cons, List.length_nil, Nat.reduceAdd, Nat.reduceSub, Array.replicate_succ, Array.replicate_zero, List.push_toArray, List.append_toArray, List.nil_append, List.cons_append]
  have hBl := bA.lt
  have hv1 : v0.oneCell' = true := by obtain ⟨A, c, rfl, -⟩ := OwnE.form ho; rfl
  gi_wp2
  have bS := Boxed.new w 56 v0
  have bA := bA.alloc (.cells #[v0] 56)
  have hB0 : Below n0 w (w.alloc (.cells #[v0] 56)) := (Below.refl _ w).alloc hn0 _
  have hs0 := hs.alloc (Nat.le_trans hMn hn0) (.cells #[v0] 56)
  have ho0 := HO.out.alloc (.cells #[v0] 56)
  have hsz : (w.alloc (.cells #[v0] 56)).heap.size = w.heap.size + 1 := by simp
  obtain ⟨W0, hW0⟩ : ∃ W0, w.alloc (.cells #[v0] 56) = W0 := ⟨_, rfl⟩
  rw [hW0] at bS bA hB0 hsz hs0 ho0 ⊢
  clear hW0
  obtain ⟨i0, hi, hz0, hz1, hz2⟩ := info_parts infoSegment
  refine wpIn_rangeFunc_ownH rfl (by omega) (gf := 119) (lb := #[.pointer (some ⟨Bx, 0, none⟩)]) rfl trivial (enters_of Try.func119 (by kernel_rfl) rfl)
    (joints_stops (8 - 1) (by omega) Bx M (fun k => k < M ∨ k = Bx) A1 c1 l (by omega) W0 bA.lt (by omega) (.inr rfl) (fun _ h => .inl h) bA.cell hs0) KpS.t (KpS.book (by intro k hk; have := bA.lt; omega)) (Below.refl _ _) (fun _ => rfl)
    (fun pre W => ((∃ v, Boxed W w.heap.size 56 v ∧ W.ownsRow n0 38 4 v pre.length (cellsE encSegment pre) ∧ True) ∧ Boxed W Bx 47 (.slice A1 l.length c1)) ∧ Below n0 w W)
    (fun _ _ _ => False)
    (OwnFrom.and (OwnFrom.and (Own.from (holdsRow_own n0 w.heap.size 56 38 4 (fun pre => pre.length) (fun pre => cellsE encSegment pre) (fun _ _ => True)) _) (Own.from (boxed_own _ _ _) _)) (ownFrom_below hn0 (by omega)))
    (fun cc _ _ _ _ hs _ _ => hs)
    ⟨⟨⟨v0, bS, ho0, trivial⟩, bA⟩, hB0⟩
    (fun x a' W => ∃ By, w.heap.size < By ∧ Laid W By 38 (sC x) ∧ a' = { tmps := #[v0, .func (.func 119) #[] #[.pointer (some ⟨Bx, 0, none⟩)], .pointer (some ⟨w.heap.size, 0, none⟩), undef, .slice none 0 0, .pointer (some ⟨By, 0, none⟩), .func (.func 119) #[] #[.pointer (some ⟨Bx, 0, none⟩)], sV x, undef, undef, undef, undef, undef], defers := [] })
    (fun x a' _ X Y row hs hg hr => by obtain ⟨Bx, h1, h2, h3⟩ := hs; exact ⟨Bx, h1, laid_own Bx 38 (fun (_ : Unit) => sC x) () X Y row h2 hg (fun r e => (hr r e).2), h3⟩)
    ?assign ?body ?done ?stop
  case assign =>
    rintro y pre x W K ⟨⟨⟨v, bS1, hr1, -⟩, bA1⟩, hB1⟩ hK
    gi_wp2
    exact hK _ _ ((KeepsOthers.alloc _ _).from _) (KpS.alloc _ _) ⟨⟨⟨v, bS1.alloc _, hr1.alloc _, trivial⟩, bA1.alloc _⟩, hB1.alloc (Nat.le_trans hn0 (by have := bS1.lt; omega)) _⟩ ⟨W.heap.size, bS1.lt, Laid.new W _ _, rfl⟩
  case body =>
    rintro y pre x a' W hy hr ⟨⟨⟨v, hv, hrow, -⟩, bA1⟩, hB1⟩ ⟨By, hBy, bX, rfl⟩ hlt
    obtain ⟨x0, x1, x2, x3⟩ := bX.c4
    have hc := hv.cell
    have hnW : n0 ≤ W.heap.size := Nat.le_trans hn0 (by have := hv.lt; omega)
    have hpl : pre.length ≤ 1000 := by rw [jts_len] at hlt; omega
    gi_wp2_with (gi_at_builtin; refine wpListIn_append_own _ rfl _ _ 56 rfl n0 38 i0 _ 4 32 Try.underlying56 hi hz0 hz1 hz2 rfl (by decide) _ _ _ rfl (hrow.alloc _) ⟨W.heap.size, 0, none⟩ 1 1 (encSegment x) rfl rfl (newSeg_cells _ _ _) (elSegment.2 x).2 (by simp only [maxLen]; omega) (by omega) (by simp; omega) ?_; intro v' w1 hown' hgrow _; obtain ⟨g', cap', rfl⟩ := ownsRow_succ hown'; obtain ⟨hv1, hv2, hr2, hk2, hb2⟩ := hv.appended (by decide) hrow hnW hn0 hown' hgrow; have hc1 := hv1.cell; have hf1 := hv1.frozen)
    refine ⟨hk2.from _, ((KpS.alloc W _).trans (KpS.grown hgrow fun k e hk => ?_)).trans (KpS.setCell _ _ _ fun hk => ?_), ⟨⟨_, hv2, ?_, trivial⟩, ((bA1.alloc _).kept hgrow (bA1.not_row (by decide) hrow)).other (by omega) _⟩, hB1.trans hb2⟩
    · have h1 := (World.ownsRow.lt hrow k e).1
      rcases hk with hk | hk
      · omega
      · subst hk; exact bA1.not_row (by decide) hrow e.symm
    · dsimp only at hk; omega
    · rw [cellsSeg_snoc, List.length_append]; exact hr2
  case done =>
    rintro D zs W hD rfl ⟨⟨⟨v, hv, hrow, -⟩, bA1⟩, hB1⟩ hK
    have hc := hv.cell
    gi_wp2
    refine ⟨by simp, .inl ⟨_, _, rfl, run_takeDeferred hK, ?_⟩⟩
    exact ⟨_, results_tmp rfl _ _ _, v, rfl, ownsRow_putObj hrow _ hK rfl, hB1.trans (belowK_b (w := w) hn0 W D _ _ (by omega) hK rfl rfl)⟩
  case stop =>
    rintro D cc pre W _ _ h _
    exact h.elim
set_option maxRecDepth 100000 in
theorem segmentsOf_any (A : Option Addr) (c : Nat) (l : List (Int × Int)) (w : World) (hs : SeesE 2 encPoint w w.heap.size A l) (hl : l.length ≤ 1099511627776) :
    Calls Try.prog 39 #[.slice A l.length c] w (GivesE 4 encSegment 38 (sgV l) w) := by
  have HS := Lib.hid hs; clear hs
  go_enter Try.func39, Try.ntmps39
  go_wp2_with (first
    | (go_at_call 91; refine (walkLine_any A c l _ w.heap.size (by simp) (HS.out.alloc (Nat.le_refl _) _) hl).mono ?_; rintro e w1 ⟨Bx, A1, c1, rfl, hBx, bA, hS1, hB1⟩)
    | (go_at_call 94; refine (appendSeq_any Bx w.heap.size w.heap.size c1 A1 (lnV l) _ w1 bA hS1 (Nat.le_refl _) (Nat.le_trans (by simp) hB1.size) (by have := lnV_len l; omega) ((OwnE.lit w w.heap.size 38 (Nat.le_refl _)).belowAll hB1)).mono ?_; rintro e w2 ⟨v, rfl, ho2, hB2⟩))
  go_ret
  obtain ⟨A2, c2, rfl, -, -⟩ := ho2.form
  exact ⟨A2, c2, _, Lib.hid rfl, rfl, ho2, (((Below.refl _ w).alloc (Nat.le_refl _) _).trans (hB1.mono (by simp))).trans hB2⟩
end Go.Proofs.Ytbnjaaegbmhopaa
end
section
/- Segments that follow one another: meetInTurn of package impl. -/
namespace Go.Proofs.Ytbnjaaegbmhopaa
open Go.ChangeShapes Go.WideShapes Go.ChangeAt Go.RowKit
set_option linter.unusedVariables false

/-- What two segments at i < k of n should meet like; z: the last one is followed by the first one. -/
def wantC (z : Bool) (n i k : Nat) : Int := if i + 1 = k ∨ (z = true ∧ i = 0 ∧ k + 1 = n) then 1 else 0
def prOk (z : Bool) (S : List (Int × Int × Int × Int)) (i k : Nat) : Bool := match S[i]?, S[k]? with
  | some u, some v => howS u v == wantC z S.length i k
  | _, _ => true
theorem prOk_at {z : Bool} {S : List (Int × Int × Int × Int)} {i k : Nat} {u v : Int × Int × Int × Int} (h : S[i]? = some u) (h' : S[k]? = some v) : prOk z S i k = (howS u v == wantC z S.length i k) := by simp only [prOk, h, h']
/-- Do they meet in turn? -/
def turnV (z : Bool) (S : List (Int × Int × Int × Int)) : Bool := decide (∀ k, k < S.length → ∀ i, i < k → prOk z S i k = true)
theorem turn_no {z : Bool} {S : List (Int × Int × Int × Int)} {i k : Nat} {u v : Int × Int × Int × Int} (hi : S[i]? = some u) (hk : S[k]? = some v) (hik : i < k) (h : ¬ howS u v = wantC z S.length i k) : turnV z S = false :=
  decide_eq_false fun g => by
    have := g k (List.getElem?_eq_some_iff.1 hk).1 i hik
    rw [prOk_at hi hk, beq_iff_eq] at this
    exact h this
theorem turn_yes {z : Bool} {S : List (Int × Int × Int × Int)} (h : ∀ k, k < S.length → ∀ i, i < k → prOk z S i k = true) : turnV z S = true := decide_eq_true h
theorem pr_ok {z : Bool} {S : List (Int × Int × Int × Int)} {i k : Nat} {u v : Int × Int × Int × Int} (hi : S[i]? = some u) (hk : S[k]? = some v) (h : howS u v = wantC z S.length i k) : prOk z S i k = true := by
  rw [prOk_at hi hk, beq_iff_eq]; exact h
set_option maxRecDepth 100000 in
set_option maxHeartbeats 4000000 in
theorem meetRightly_is (Bs Bc Bl b off c1 B i j : Nat) (cl : Bool) (L : List (Int × Int × Int × Int)) (u v : Int × Int × Int × Int) (w : World) (hBs : w.cell? ⟨Bs, 0, none⟩ = some (.slice (some ⟨b, off, none⟩) L.length c1))
    (hBc : w.cell? ⟨Bc, 0, none⟩ = some (.bool cl)) (hBl : w.cell? ⟨Bl, 0, none⟩ = some (.int .i64 ((L.length : Int) - 1))) (hs : SeesE 4 encSegment w B (some ⟨b, off, none⟩) L) (h9 : L.length ≤ 1000)
    (hu : L[i]? = some u) (hv : L[j]? = some v) (z : Bool) (hz : decide (howS u v = wantC cl L.length i j) = z) :
    Calls Try.prog 120 #[.int .i64 i, .int .i64 j, .pointer (some ⟨Bs, 0, none⟩), .pointer (some ⟨Bc, 0, none⟩), .pointer (some ⟨Bl, 0, none⟩)] w fun e w' => e = .returned (.bool z) ∧ Below w.heap.size w w' := by
  have hil := (List.getElem?_eq_some_iff.1 hu).1
  have hjl := (List.getElem?_eq_some_iff.1 hv).1
  have hil' : (i : Int) < (L.length : Int) := by omega
  have hjl' : (j : Int) < (L.length : Int) := by omega
  obtain ⟨k0, k1, k2, k3⟩ := cells4 hs hu
  obtain ⟨k4, k5, k6, k7⟩ := cells4 hs hv
  obtain ⟨m, hm⟩ : ∃ m, howS u v = m := ⟨_, rfl⟩
  have HZ : Hid (decide (m = wantC cl L.length i j) = z) := Lib.hid (by rw [← hm]; exact hz)
  clear hu hv hs hz
  go_enter Try.func120, Try.ntmps120
  go_wp2
  go_region_held3 (fun w' => w'.cell? ⟨Bs, 0, none⟩ = some (.slice (some ⟨b, off, none⟩) L.length c1) ∧ (w'.cell? ⟨b, off + i * 4, none⟩ = some (.int .i64 u.1) ∧ w'.cell? ⟨b, off + i * 4 + 1, none⟩ = some (.int .i64 u.2.1) ∧ w'.cell? ⟨b, off + i * 4 + 2, none⟩ = some (.int .i64 u.2.2.1) ∧ w'.cell? ⟨b, off + i * 4 + 3, none⟩ = some (.int .i64 u.2.2.2)) ∧ (w'.cell? ⟨b, off + j * 4, none⟩ = some (.int .i64 v.1) ∧ w'.cell? ⟨b, off + j * 4 + 1, none⟩ = some (.int .i64 v.2.1) ∧ w'.cell? ⟨b, off + j * 4 + 2, none⟩ = some (.int .i64 v.2.2.1) ∧ w'.cell? ⟨b, off + j * 4 + 3, none⟩ = some (.int .i64 v.2.2.2))) (first | exact ⟨hBs, ⟨k0, k1, k2, k3⟩, ⟨k4, k5, k6, k7⟩⟩ | exact hQ) (first
    | (go_at_call 24; refine (howS_is u v _ _ hm).mono ?_; rintro e w9 ⟨rfl, hb9⟩; have hb9' := Lib.hid hb9; have hQ := And.intro ((hb9.cell (World.block_lt_of_cell? _ _ hBs)).trans hBs) (And.intro (And.intro ((hb9.cell (World.block_lt_of_cell? _ _ k0)).trans k0) (And.intro ((hb9.cell (World.block_lt_of_cell? _ _ k1)).trans k1) (And.intro ((hb9.cell (World.block_lt_of_cell? _ _ k2)).trans k2) ((hb9.cell (World.block_lt_of_cell? _ _ k3)).trans k3)))) (And.intro ((hb9.cell (World.block_lt_of_cell? _ _ k4)).trans k4) (And.intro ((hb9.cell (World.block_lt_of_cell? _ _ k5)).trans k5) (And.intro ((hb9.cell (World.block_lt_of_cell? _ _ k6)).trans k6) ((hb9.cell (World.block_lt_of_cell? _ _ k7)).trans k7)))))) | fail)
  all_goals
    have hc9 := (hb9.cell (World.block_lt_of_cell? _ _ hBc)).trans hBc
    have hl9 := (hb9.cell (World.block_lt_of_cell? _ _ hBl)).trans hBl
    by_cases he : i + 1 = j
    · have he' : (i : Int) + 1 = (j : Int) := by omega
      have hz := HZ.out
      rw [show wantC cl L.length i j = 1 from if_pos (.inl he)] at hz
      by_cases h1 : m = 1
      · subst h1
        obtain rfl : z = true := by rw [← hz]; rfl
        go_wp2
        go_ret
        exact ⟨rfl, (Below.refl _ w).drew.trans hb9⟩
      · obtain rfl : z = false := by rw [← hz, decide_eq_false h1]
        go_wp2
        go_ret
        exact ⟨by simp [h1], (Below.refl _ w).drew.trans hb9⟩
    · have he' : ¬ ((i : Int) + 1 = (j : Int)) := by omega
      have he2 : ((i : Int) + 1 == (j : Int)) = false := by simp [he']
      have hz := HZ.out
      cases cl
      · rw [show wantC false L.length i j = 0 from if_neg (by simp [he])] at hz
        by_cases h1 : m = 0
        · subst h1
          obtain rfl : z = true := by rw [← hz]; rfl
          go_wp2
          go_ret
          exact ⟨rfl, (Below.refl _ w).drew.trans hb9⟩
        · obtain rfl : z = false := by rw [← hz, decide_eq_false h1]
          go_wp2
          go_ret
          exact ⟨by simp [h1], (Below.refl _ w).drew.trans hb9⟩
      · by_cases hi0 : i = 0
        · subst hi0
          by_cases hj0 : j + 1 = L.length
          · have hj1 : ((j : Int) == (L.length : Int) - 1) = true := by simp; omega
            rw [show wantC true L.length 0 j = 1 from if_pos (.inr ⟨rfl, rfl, hj0⟩)] at hz
            by_cases h1 : m = 1
            · subst h1
              obtain rfl : z = true := by rw [← hz]; rfl
              go_wp2
              go_ret
              exact ⟨rfl, (Below.refl _ w).drew.trans hb9⟩
            · obtain rfl : z = false := by rw [← hz, decide_eq_false h1]
              go_wp2
              go_ret
              exact ⟨by simp [h1], (Below.refl _ w).drew.trans hb9⟩
          · have hj1 : ((j : Int) == (L.length : Int) - 1) = false := by simp; omega
            rw [show wantC true L.length 0 j = 0 from if_neg (by simp; omega)] at hz
            by_cases h1 : m = 0
            · subst h1
              obtain rfl : z = true := by rw [← hz]; rfl
              go_wp2
              go_ret
              exact ⟨rfl, (Below.refl _ w).drew.trans hb9⟩
            · obtain rfl : z = false := by rw [← hz, decide_eq_false h1]
              go_wp2
              go_ret
              exact ⟨by simp [h1], (Below.refl _ w).drew.trans hb9⟩
        · have hi1 : ((i : Int) == 0) = false := by simp; omega
          rw [show wantC true L.length i j = 0 from if_neg (by simp; omega)] at hz
          by_cases h1 : m = 0
          · subst h1
            obtain rfl : z = true := by rw [← hz]; rfl
            go_wp2
            go_ret
            exact ⟨rfl, (Below.refl _ w).drew.trans hb9⟩
          · obtain rfl : z = false := by rw [← hz, decide_eq_false h1]
            go_wp2
            go_ret
            exact ⟨by simp [h1], (Below.refl _ w).drew.trans hb9⟩
set_option maxRecDepth 100000 in
set_option maxHeartbeats 4000000 in
theorem meetInTurn_is (A1 : Option Addr) (c1 : Nat) (cl : Bool) (L : List (Int × Int × Int × Int)) (w : World) (hs : SeesE 4 encSegment w w.heap.size A1 L) (h9 : L.length ≤ 1000) (z : Bool) (hz : turnV cl L = z) :
    Calls Try.prog 90 #[.slice A1 L.length c1, .bool cl] w fun e w' => e = .returned (.bool z) ∧ Below w.heap.size w w' := by
  have HS := Lib.hid hs; clear hs
  have HZ := Lib.hid hz; clear hz
  go_enter Try.func90, Try.ntmps90
  go_wp2
  have e1 : (w.alloc (.cells #[.slice A1 L.length c1] 56)).heap.size = w.heap.size + 1 := by simp
  have e2 : ((w.alloc (.cells #[.slice A1 L.length c1] 56)).alloc (.cells #[.bool cl] 4)).heap.size = w.heap.size + 1 + 1 := by simp
  have bC0 := Boxed.new (w.alloc (.cells #[.slice A1 L.length c1] 56)) 4 (.bool cl)
  rw [e1] at bC0
  have bL0 := Boxed.new ((w.alloc (.cells #[.slice A1 L.length c1] 56)).alloc (.cells #[.bool cl] 4)) 3 (.int .i64 ((L.length : Int) - 1))
  rw [e2] at bL0
  have HX0 := Lib.hid (((Boxed.new w 56 (.slice A1 L.length c1)).alloc (.cells #[.bool cl] 4)).alloc (.cells #[.int .i64 ((L.length : Int) - 1)] 3))
  have HC0 := Lib.hid (bC0.alloc (.cells #[.int .i64 ((L.length : Int) - 1)] 3))
  have HL0 := Lib.hid bL0
  have HB0 := Lib.hid ((((Below.refl w.heap.size w).alloc (Nat.le_refl _) (.cells #[.slice A1 L.length c1] 56)).alloc (by simp) (.cells #[.bool cl] 4)).alloc (by simp; omega) (.cells #[.int .i64 ((L.length : Int) - 1)] 3))
  clear bC0 bL0 e1 e2
  generalize w.heap.size + 1 + 1 = Bl at HX0 HC0 HL0 HB0 ⊢
  generalize w.heap.size + 1 = Bc at HX0 HC0 HL0 HB0 ⊢
  generalize hW : ((w.alloc (.cells #[.slice A1 L.length c1] 56)).alloc (.cells #[.bool cl] 4)).alloc (.cells #[.int .i64 ((L.length : Int) - 1)] 3) = w2 at HX0 HC0 HL0 HB0 ⊢
  clear hW
  go_loopw [15] (fun i wr => ∃ j : Nat, j ≤ L.length ∧ i = .int .i64 j ∧ Hid (∀ k, k < j → ∀ i, i < k → prOk cl L i k = true) ∧ Hid (Boxed wr w.heap.size 56 (.slice A1 L.length c1)) ∧ Hid (Boxed wr Bc 4 (.bool cl)) ∧ Hid (Boxed wr Bl 3 (.int .i64 ((L.length : Int) - 1))) ∧ Hid (Below w.heap.size w wr)) (fun i _ => L.length - (intOf i).toNat)
  case atStart => exact ⟨0, Nat.zero_le _, rfl, Lib.hid (fun k hk => by omega), HX0, HC0, HL0, HB0⟩
  case round =>
    obtain ⟨i, hi, rfl, hp, HX, HC, HL, HB⟩ := hrel
    clear HX0 HC0 HL0 HB0
    by_cases hlt : i < L.length
    · have hli : (i : Int) < (L.length : Int) := by omega
      go_wp2
      go_loopw [19] (fun k wx => ∃ j : Nat, j ≤ i ∧ k = .int .i64 j ∧ Hid (∀ q, q < j → prOk cl L q i = true) ∧ Hid (Boxed wx w.heap.size 56 (.slice A1 L.length c1)) ∧ Hid (Boxed wx Bc 4 (.bool cl)) ∧ Hid (Boxed wx Bl 3 (.int .i64 ((L.length : Int) - 1))) ∧ Hid (Below w.heap.size w wx)) (fun k _ => i - (intOf k).toNat)
      case atStart => exact ⟨0, Nat.zero_le _, rfl, Lib.hid (fun k hk => by omega), HX, HC, HL, HB⟩
      case round =>
        obtain ⟨j, hj, rfl, hq, HX, HC, HL, HB⟩ := hrel
        by_cases hlj : j < i
        · have hlj' : (j : Int) < (i : Int) := by omega
          obtain ⟨b, off, v, rfl, hbl, hv, -⟩ := HS.out.lt hlt
          obtain ⟨u, hu⟩ : ∃ u, L[j]? = some u := ⟨_, List.getElem?_eq_getElem (by omega)⟩
          have HU := Lib.hid hu; have HV := Lib.hid hv
          clear hu hv
          cases hd : decide (howS u v = wantC cl L.length j i)
          · obtain rfl : z = false := HZ.out.symm.trans (turn_no HU.out HV.out hlj (of_decide_eq_false hd))
            go_wp2_with (go_at_call 120; refine (meetRightly_is w.heap.size Bc Bl b off c1 _ j i cl L u v _ HX.out.cell HC.out.cell HL.out.cell (HS.out.below HB.out) h9 HU.out HV.out _ hd).mono ?_; rintro e w9 ⟨rfl, hb9⟩)
            go_ret
            exact ⟨rfl, HB.out.trans (hb9.mono HB.out.size)⟩
          · go_wp2_with (go_at_call 120; refine (meetRightly_is w.heap.size Bc Bl b off c1 _ j i cl L u v _ HX.out.cell HC.out.cell HL.out.cell (HS.out.below HB.out) h9 HU.out HV.out _ hd).mono ?_; rintro e w9 ⟨rfl, hb9⟩)
            go_roundw
            case rel => exact ⟨j + 1, by omega, by go_num, Lib.hid (upto_step hq.out (pr_ok HU.out HV.out (of_decide_eq_true hd))), Lib.hid (boxed_call HX.out hb9), Lib.hid (boxed_call HC.out hb9), Lib.hid (boxed_call HL.out hb9), Lib.hid (HB.out.trans (hb9.mono HB.out.size))⟩
            case measure => simp [intOf]; omega
        · obtain rfl : j = i := by omega
          go_wp2
          go_roundw
          case rel => exact ⟨j + 1, by omega, by go_num, Lib.hid (upto_step hp.out hq.out), HX, HC, HL, HB⟩
          case measure => simp [intOf]; omega
    · obtain rfl : i = L.length := by omega
      obtain rfl : z = true := HZ.out.symm.trans (turn_yes hp.out)
      go_wp2
      go_ret
      exact ⟨rfl, HB.out⟩
end Go.Proofs.Ytbnjaaegbmhopaa
end
section
/- Lines: IsSimple of package impl, over meetInTurn. -/
namespace Go.Proofs.Ytbnjaaegbmhopaa
open Go.ChangeShapes Go.WideShapes Go.ChangeAt Go.RowKit
set_option linter.unusedVariables false

theorem smp_turn (l : List (Int × Int)) : smpV l = (turnV false (sgV l) && isLn l) := by
  unfold smpV turnV
  congr 1
  refine decide_eq_decide.2 ⟨fun h k hk i hi => ?_, fun h k hk i hi => ?_⟩
  · have := h k hk i hi
    obtain ⟨u, hu⟩ : ∃ u, (sgV l)[i]? = some u := ⟨_, List.getElem?_eq_getElem (by omega)⟩
    obtain ⟨v, hv⟩ : ∃ v, (sgV l)[k]? = some v := ⟨_, List.getElem?_eq_getElem hk⟩
    rw [mtOk_at hu hv] at this
    rw [prOk_at hu hv, show wantC false (sgV l).length i k = if i + 1 = k then 1 else 0 by unfold wantC; simp]
    exact this
  · have := h k hk i hi
    obtain ⟨u, hu⟩ : ∃ u, (sgV l)[i]? = some u := ⟨_, List.getElem?_eq_getElem (by omega)⟩
    obtain ⟨v, hv⟩ : ∃ v, (sgV l)[k]? = some v := ⟨_, List.getElem?_eq_getElem hk⟩
    rw [prOk_at hu hv, show wantC false (sgV l).length i k = if i + 1 = k then 1 else 0 by unfold wantC; simp] at this
    rw [mtOk_at hu hv]
    exact this
set_option maxRecDepth 100000 in
set_option maxHeartbeats 4000000 in
theorem isSimple_is (A : Option Addr) (c : Nat) (l : List (Int × Int)) (w : World) (hs : SeesE 2 encPoint w w.heap.size A l) (hl : l.length ≤ 1099511627776) (z : Bool) (hz : smpV l = z) :
    Calls Try.prog 34 #[.slice A l.length c] w fun e w' => e = .returned (.bool z) ∧ Below w.heap.size w w' := by
  have HS := Lib.hid hs; clear hs
  have HZ : Hid ((turnV false (sgV l) && isLn l) = z) := Lib.hid (by rw [← smp_turn]; exact hz)
  clear hz
  go_enter Try.func34, Try.ntmps34
  cases hi : isLn l
  · obtain rfl : z = false := by rw [← HZ.out, hi, Bool.and_false]
    have h0 : Hid (sgV l = []) := Lib.hid (sgV_no hi)
    go_wp2_with fail
    refine (segmentsOf_any A c l _ HS.out hl).mono ?_
    rintro e w1 ⟨A1, c1, L, hL, rfl, ho1, hb1⟩
    have hn : L.length = 0 := by rw [hL.out, h0.out]; rfl
    have hn2 : ((L.length : Nat) : Int) = 0 := by omega
    have HB1 := Lib.hid hb1
    rw [hn]
    clear ho1 hb1 hn hn2
    go_wp2
    go_ret
    exact ⟨rfl, HB1.out⟩
  · have hz' : turnV false (sgV l) = z := by rw [← HZ.out, hi, Bool.and_true]
    have HT := Lib.hid hz'
    clear hz'
    go_wp2_with fail
    refine (segmentsOf_any A c l _ HS.out hl).mono ?_
    rintro e w1 ⟨A1, c1, L, hL, rfl, ho1, hb1⟩
    have hn : (0 : Int) < (L.length : Int) := by have := sgV_pos hi; rw [← hL.out] at this; omega
    have h9 : L.length ≤ 1000 := by rw [hL.out]; have := sgV_len l; omega
    have HB1 := Lib.hid hb1; have HO1 := Lib.hid ho1
    have HT2 : Hid (turnV false L = z) := Lib.hid (by rw [hL.out]; exact HT.out)
    clear ho1 hb1
    go_wp2_with (go_at_call 90; refine (meetInTurn_is A1 c1 false L _ (HO1.out.sees elSegment) h9 _ HT2.out).mono ?_; rintro e w2 ⟨rfl, hb2⟩)
    go_ret
    exact ⟨by cases z <;> rfl, HB1.out.trans (hb2.mono HB1.out.size)⟩
end Go.Proofs.Ytbnjaaegbmhopaa
end
section
/- Lines: LinesMeet of package impl. -/
namespace Go.Proofs.Ytbnjaaegbmhopaa
open Go.ChangeShapes Go.WideShapes Go.ChangeAt Go.RowKit Go.Shelf
set_option linter.unusedVariables false
attribute [local go_sem] Oper.semAt_some

theorem runStoreFunc {P : Program} {w : World} {a : Addr} {m : Mode} (fn : Fn) (first captured : Array Value) : (store a (.func fn first captured) m).run P w = stored P w a (.func fn first captured) m := run_store P w a _ m rfl
attribute [local go_sem] runStoreFunc
theorem SeesE.back {α : Type} {n : Nat} {enc : α → List Value} {w w' : World} {B : Nat} {A : Option Addr} {l : List α} (h : SeesE n enc w' B A l) (hb : Below B w w') : SeesE n enc w B A l := fun j x hj => by
  obtain ⟨b, off, e, hlt, hc⟩ := h j x hj
  exact ⟨b, off, e, hlt, fun k v hv => ((hb.cell (p := ⟨b, off + j * n + k, none⟩) hlt).symm).trans (hc k v hv)⟩
theorem ownFrom_kpS {β : Type} {p : Nat → Prop} {B : Nat} {w₀ : World} (hp : ∀ k, p k → k < B) : OwnFrom B (fun (_ : β) W => KpS p w₀ W) := fun s X Y row hs hg hr =>
  hs.trans (KpS.grown hg fun k e hk => by have h1 := (hr k e).1; have h2 := hp k hk; omega)
theorem maxS_is (a b z : Int) (w : World) (hz : extV true a b = z) : Calls Try.prog 93 #[.int .i64 a, .int .i64 b] w fun e w' => e = .returned (.int .i64 z) ∧ Below w.heap.size w w' := by subst hz; rw [ext_max]; exact maxB a b w
/-- The iterator over the joints of a slice in block B. -/
abbrev jFn (B : Nat) : Value := .func (.func 119) #[] #[.pointer (some ⟨B, 0, none⟩)]
set_option maxRecDepth 100000 in
set_option maxHeartbeats 16000000 in
theorem linesMeet_is (A A' : Option Addr) (c c' : Nat) (l l' : List (Int × Int)) (w : World) (hs : SeesE 2 encPoint w w.heap.size A l) (hs' : SeesE 2 encPoint w w.heap.size A' l') (hl : l.length ≤ 1099511627776) (hl' : l'.length ≤ 1099511627776) (z : Int) (hz : mtV (sgV l) (sgV l') = z) :
    Calls Try.prog 38 #[.slice A l.length c, .slice A' l'.length c'] w fun e w' => e = .returned (.int .i64 z) ∧ Below w.heap.size w w' := by
  have HS := Lib.hid hs; have HS' := Lib.hid hs'; clear hs hs'
  have HZ := Lib.hid hz; clear hz
  refine (callsIn_wide (n := 8)).1 ?_
  refine callsIn_of_wp_marks Try.func38 rfl trivial ?_ rfl
  simp only [Try.ntmps38, List.size_toArray, List.length_cons, List.length_nil, Nat.reduceAdd, Nat.reduceSub, Array.replicate_succ, Array.replicate_zero, List.push_toArray, List.append_toArray, List.nil_append, List.cons_append]
  gi_wp2_with (fail)
  refine ⟨trivial, ?_⟩
  refine (callsIn_wide.2 (walkLine_any A' c' l' w w.heap.size (Nat.le_refl _) HS'.out hl')).mono ?_
  rintro e w1 ⟨Bb, A1, c1, rfl, hBb, bB, hS1, hB1⟩
  gi_wp2_with (fail)
  refine ⟨trivial, ?_⟩
  have hB2 : Below w.heap.size w ((w1.alloc (.cells #[jFn Bb] 114)).alloc (.cells #[.int .i64 0] 3)) := (hB1.alloc hB1.size _).alloc (Nat.le_trans hB1.size (by simp)) _
  refine (callsIn_wide.2 (walkLine_any A c l _ w.heap.size hB2.size (HS.out.below hB2) hl)).mono ?_
  rintro e W0 ⟨Ba, A2, c2, rfl, hBa, bA, hS2, hB3⟩
  have bO := boxed_below ((Boxed.new w1 114 (jFn Bb)).alloc (.cells #[.int .i64 0] 3)) hB3 (by simp; omega)
  have bG := boxed_below (Boxed.new (w1.alloc (.cells #[jFn Bb] 114)) 3 (.int .i64 0)) hB3 (by simp)
  have hBbl := bB.lt
  have bB := boxed_below ((bB.alloc (.cells #[jFn Bb] 114)).alloc (.cells #[.int .i64 0] 3)) hB3 (by have := bB.lt; simp; omega)
  simp only [World.size_alloc] at bG hBa
  have hS1 := Lib.hid (hS1.back hB1)
  have hB0 : Below w.heap.size w W0 := hB2.trans (hB3.mono hB2.size)
  have hz0 := hB3.size
  gi_wp2_with (fail)
  have hg : w1.heap.size + 1 ≤ W0.heap.size := Nat.le_trans (by simp) hz0
  have hp9 : Hid (∀ k, (k < w.heap.size ∨ k = Ba ∨ k = Bb) → k < W0.heap.size) := Lib.hid (by intro k hk; have := bA.lt; have := hB0.size; omega)
  have hnG : Hid (¬ (w1.heap.size + 1 < w.heap.size ∨ w1.heap.size + 1 = Ba ∨ w1.heap.size + 1 = Bb)) := Lib.hid (by have := hB1.size; omega)
  have h1 := hB1.size
  have hlA : (lnV l).length ≤ 1099511627776 := by have := lnV_len l; omega
  have hlB : (lnV l').length ≤ 1099511627776 := by have := lnV_len l'; omega
  clear hB2 hB3 hz0
  refine wpIn_rangeFunc_ownH rfl (by omega) (gf := 119) (lb := #[.pointer (some ⟨Ba, 0, none⟩)]) rfl trivial (enters_of Try.func119 (by kernel_rfl) rfl)
    (joints_stops (8 - 1) (by omega) Ba w.heap.size (fun k => k < w.heap.size ∨ k = Ba ∨ k = Bb) A2 c2 (lnV l) hlA W0 bA.lt hB0.size (.inr (.inl rfl)) (fun _ h => .inl h) bA.cell hS2) KpS.t (KpS.book hp9.out) (Below.refl _ _) (fun _ => rfl)
    (fun pre W => ((Boxed W (w1.heap.size + 1) 3 (.int .i64 (mtV pre (sgV l'))) ∧ Boxed W w1.heap.size 114 (jFn Bb)) ∧ Boxed W Bb 47 (.slice A1 (lnV l').length c1)) ∧ Below w.heap.size w W)
    (fun _ _ _ => False)
    (OwnFrom.and (OwnFrom.and (OwnFrom.and (Own.from (boxed_own _ _ _) _) (Own.from (boxed_own _ _ _) _)) (Own.from (boxed_own _ _ _) _)) (ownFrom_below (Nat.le_refl _) hB0.size))
    (fun cc _ _ _ _ hs _ _ => hs)
    ⟨⟨⟨bG, bO⟩, bB⟩, hB0⟩
    (fun x a' W => ∃ By, (w1.heap.size + 1 < By ∧ w1.heap.size + 1 ≠ By) ∧ Laid W By 38 (sC x) ∧ a' = { tmps := #[.slice A l.length c, .slice A' l'.length c', undef, undef, .int .i64 0, .pointer (some ⟨w1.heap.size, 0, none⟩), .pointer (some ⟨w1.heap.size + 1, 0, none⟩), .pointer (some ⟨By, 0, none⟩), undef, .slice A' l'.length c', jFn Bb, .slice A l.length c, jFn Ba, sV x, undef, undef, undef, undef, undef, undef, undef, undef], defers := [] })
    (fun x a' _ X Y row hs hg hr => by obtain ⟨Bx, h1, h2, h3⟩ := hs; exact ⟨Bx, h1, laid_own Bx 38 (fun (_ : Unit) => sC x) () X Y row h2 hg (fun r e => (hr r e).2), h3⟩)
    ?assign ?body ?done ?stop
  case assign =>
    rintro y pre x W K ⟨⟨⟨bG1, bO1⟩, bB1⟩, hB4⟩ hK
    gi_wp2
    exact hK _ _ ((KeepsOthers.alloc _ _).from _) (KpS.alloc _ _) ⟨⟨⟨bG1.alloc _, bO1.alloc _⟩, bB1.alloc _⟩, hB4.alloc hB4.size _⟩ ⟨W.heap.size, ⟨bG1.lt, by have := bG1.lt; omega⟩, Laid.new W _ _, rfl⟩
  case body =>
    rintro y pre x a' W hy ⟨r, hr⟩ ⟨⟨⟨bG1, bO1⟩, bB1⟩, hB4⟩ ⟨By, hBy, bX, rfl⟩ hlt
    have cO := bO1.cell
    have h1' : 1 ≤ 8 - 1 - 1 := by omega
    gi_wp2_with (fail)
    have hsW := hB4.size
    have hW0 : W0.heap.size ≤ W.heap.size := Nat.le_trans hy (Nat.le_of_lt (Array.getElem?_eq_some_iff.1 hr).1)
    refine wpIn_rangeFunc_ownN (l₀ := y) (r₀ := r) rfl hr h1' (gf := 119) (lb := #[.pointer (some ⟨Bb, 0, none⟩)]) rfl trivial (enters_of Try.func119 (by kernel_rfl) rfl)
      ((joints_stops (8 - 1 - 1 - 1) (by omega) Bb w.heap.size (fun k => k < w.heap.size ∨ k = Ba ∨ k = Bb) A1 c1 (lnV l') hlB W bB1.lt hsW (.inr (.inr rfl)) (fun _ h => .inl h) bB1.cell (hS1.out.below hB4)).inRound y) KpS.t (KpS.book (fun k hk => Nat.lt_of_lt_of_le (hp9.out k hk) hW0)) (Below.refl _ _) (fun _ => rfl)
      (fun pre' W' => (((Boxed W' (w1.heap.size + 1) 3 (.int .i64 (mxS (mtV pre (sgV l')) x pre')) ∧ Laid W' By 38 (sC x)) ∧ Boxed W' w1.heap.size 114 (jFn Bb)) ∧ Boxed W' Bb 47 (.slice A1 (lnV l').length c1)) ∧ (Below w.heap.size W W' ∧ KeepsFrom W0.heap.size W W') ∧ KpS (fun k => k < w.heap.size ∨ k = Ba ∨ k = Bb) W W')
      (fun _ _ _ => False)
      (OwnFrom.and (OwnFrom.and (OwnFrom.and (OwnFrom.and (Own.from (boxed_own _ _ _) _) (Own.from (laid_own _ _ _) _)) (Own.from (boxed_own _ _ _) _)) (Own.from (boxed_own _ _ _) _)) (OwnFrom.and (OwnFrom.and (ownFrom_below hsW hsW) (ownFrom_keepsFrom (Nat.le_refl _))) (ownFrom_kpS (fun k hk => Nat.lt_of_lt_of_le (hp9.out k hk) hW0))))
      (fun _ _ _ _ _ hs _ _ => hs)
      ⟨⟨⟨⟨bG1, bX⟩, bO1⟩, bB1⟩, ⟨Below.refl _ W, KeepsFrom.refl _ _⟩, KpS.refl _⟩
      (fun t a'' W' => ∃ Bz, (w1.heap.size + 1 < Bz ∧ w1.heap.size + 1 ≠ Bz) ∧ Laid W' Bz 38 (sC t) ∧ a'' = { tmps := #[.slice A l.length c, .slice A' l'.length c', undef, undef, .int .i64 0, .pointer (some ⟨w1.heap.size, 0, none⟩), .pointer (some ⟨w1.heap.size + 1, 0, none⟩), .pointer (some ⟨By, 0, none⟩), .pointer (some ⟨Bz, 0, none⟩), .slice A' l'.length c', jFn Bb, .slice A l.length c, jFn Ba, sV x, jFn Bb, sV t, undef, undef, undef, undef, undef, undef], defers := [] })
      (fun t a'' _ X Y row hs hg hr => by obtain ⟨Bx, h1, h2, h3⟩ := hs; exact ⟨Bx, h1, laid_own Bx 38 (fun (_ : Unit) => sC t) () X Y row h2 hg (fun r e => (hr r e).2), h3⟩)
      ?assign2 ?body2 ?done2 ?stop2
    case assign2 =>
      rintro y2 pre' t W' K ⟨⟨⟨⟨bG2, bX2⟩, bO2⟩, bB2⟩, ⟨hBW, hKF⟩, hKp⟩ hK
      gi_wp2
      exact hK _ _ ((KeepsOthers.alloc _ _).from _) (KpS.alloc _ _) ⟨⟨⟨⟨bG2.alloc _, bX2.alloc _⟩, bO2.alloc _⟩, bB2.alloc _⟩, ⟨hBW.alloc (Nat.le_trans hsW hBW.size) _, hKF.trans ((KeepsOthers.alloc _ _).from _)⟩, hKp.trans (KpS.alloc _ _)⟩ ⟨W'.heap.size, ⟨bG2.lt, by have := bG2.lt; omega⟩, Laid.new W' _ _, rfl⟩
    case body2 =>
      rintro y2 pre' t a'' W' _ _ ⟨⟨⟨⟨bG2, bX2⟩, bO2⟩, bB2⟩, ⟨hBW, hKF⟩, hKp⟩ ⟨Bz, hBz, bZ, rfl⟩ _
      obtain ⟨x0, x1, x2, x3⟩ := bX2.c4
      obtain ⟨t0, t1, t2, t3⟩ := bZ.c4
      have cG := bG2.cell
      have fG := bG2.frozen
      have BG := Lib.hid bG2; have BX := Lib.hid bX2; have BO := Lib.hid bO2; have BB := Lib.hid bB2; have BZ := Lib.hid bZ
      have HW := Lib.hid hBW; have HF := Lib.hid hKF; have HP := Lib.hid hKp
      clear bG2 bX2 bO2 bB2 bZ hBW hKF hKp
      obtain ⟨m, hm⟩ : ∃ m, howS x t = m := ⟨_, rfl⟩
      obtain ⟨M, hM⟩ : ∃ M, mxS (mtV pre (sgV l')) x pre' = M := ⟨_, rfl⟩
      obtain ⟨q, hq⟩ : ∃ q, extV true M m = q := ⟨_, rfl⟩
      have HQ : Hid (q = mxS (mtV pre (sgV l')) x (pre' ++ [t])) := Lib.hid (by rw [mxS_snoc, hM, hm, hq])
      rw [hM] at cG
      have hmx : Try.prog.follows .mixedOrders = true := by kernel_rfl
      gi_wp2_with (fail)
      gi_region_with_o (first
        | (refine ⟨trivial, ?_⟩; gi_at_call 24; refine (CallsIn.inRound y2 (CallsIn.inRound y (callsIn_wide.2 (howS_is x t m _ hm)))).mono ?_; rintro e w9 ⟨rfl, hb9⟩; have BG9 := Lib.hid (boxed_call (boxed_drew BG.out) hb9); have cG9 := BG9.out.cell; have hb9' := Lib.hid hb9)
        | (refine ⟨trivial, ?_⟩; gi_at_call 93; refine (CallsIn.inRound y2 (CallsIn.inRound y (callsIn_wide.2 (maxS_is M m q _ hq)))).mono ?_; rintro e w8 ⟨rfl, hb8⟩; have BG8 := Lib.hid (boxed_call BG9.out hb8); have cG8 := BG8.out.cell; have fG8 := BG8.out.frozen))
      all_goals
        gi_wp2
        have hC : Below W'.heap.size W' w8 := ((Below.refl _ W').drew.trans hb9).trans (hb8.mono hb9.size)
        have hCw := hC.mono (Nat.le_trans hsW HW.out.size)
        exact ⟨((KeepsOthers.of_call hC).trans (KeepsOthers.setCell _ _ _)).from _, (KpS.of_call hC).trans (KpS.setCell _ _ _ hnG.out),
          ⟨⟨⟨by rw [← HQ.out]; exact BG8.out.set _, (BX.out.call hC).kept (grownBy_setCell' _ _ _) (fun e => hBy.2 (Option.some.inj e).symm)⟩, (boxed_call BO.out hC).other (by omega) _⟩, (boxed_call BB.out hC).other (by omega) _⟩,
          ⟨HW.out.trans (hCw.setCell (p := ⟨w1.heap.size + 1, 0, none⟩) (by dsimp only; omega) _), HF.out.trans (((KeepsOthers.of_call hC).trans (KeepsOthers.setCell _ _ _)).from _)⟩, HP.out.trans ((KpS.of_call hC).trans (KpS.setCell _ _ _ hnG.out))⟩
    case done2 =>
      rintro ys' W' rfl ⟨⟨⟨⟨bG2, bX2⟩, bO2⟩, bB2⟩, ⟨hBW, hKF⟩, hKp⟩
      gi_wp2
      exact ⟨hKF, hKp, ⟨⟨by rw [mtV_snoc]; exact bG2, bO2⟩, bB2⟩, hB4.trans hBW⟩
    case stop2 =>
      rintro cc pre' W' _ h
      exact h.elim
  case done =>
    rintro D zs W hD rfl ⟨⟨⟨bG1, bO1⟩, bB1⟩, hB4⟩ hK
    have cG := bG1.cell
    gi_wp2
    refine ⟨by simp, .inl ⟨_, _, rfl, run_takeDeferred hK, ?_⟩⟩
    exact ⟨_, results_tmp rfl _ _ _, by rw [← HZ.out]; rfl, hB4.trans (belowK_b (w := w) (Nat.le_refl _) W D _ _ (Nat.le_trans hB0.size hD) hK rfl rfl)⟩
  case stop =>
    rintro D cc pre W _ _ h _
    exact h.elim
end Go.Proofs.Ytbnjaaegbmhopaa
end
section
/- Lines that never cross: CanDrop and MeetsAll of package impl. -/
namespace Go.Proofs.Ytbnjaaegbmhopaa
open Go.ChangeShapes Go.WideShapes Go.ChangeAt Go.RowKit
set_option linter.unusedVariables false

/-- Does one of the others meet D more than l? -/
def moreB (D l : List (Int × Int)) (O : List (List (Int × Int))) : Bool := O.any fun o => decide (mtL l o < mtL D o)
theorem moreB_not (D l : List (Int × Int)) (O : List (List (Int × Int))) : (!moreB D l O) = noMtB D l O := by
  unfold moreB noMtB
  rw [List.not_any_eq_all_not]
  congr 1
  funext o
  by_cases h : mtL l o < mtL D o
  · simp [h]
  · simp [h]; omega
theorem moreB_take {D l : List (Int × Int)} {O : List (List (Int × Int))} {j : Nat} {p : List (Int × Int)} (h : O[j]? = some p) : moreB D l (O.take (j + 1)) = (moreB D l (O.take j) || decide (mtL l p < mtL D p)) := by
  unfold moreB
  rw [takeLs h, List.any_append]
  simp
set_option maxRecDepth 100000 in
set_option maxHeartbeats 4000000 in
theorem meetsMore_is (Ad A Ap : Option Addr) (cd c cp : Nat) (D l p : List (Int × Int)) (B C : Nat) (z : Bool) (w : World) (k0 : w.cell? ⟨B, 0, none⟩ = some (.slice Ad D.length cd)) (k1 : w.cell? ⟨C, 0, none⟩ = some (.slice A l.length c))
    (hd : SeesE 2 encPoint w w.heap.size Ad D) (hs : SeesE 2 encPoint w w.heap.size A l) (hp : SeesE 2 encPoint w w.heap.size Ap p) (hD : D.length ≤ 1099511627776) (hl : l.length ≤ 1099511627776) (hpl : p.length ≤ 1099511627776) (hz : decide (mtL l p < mtL D p) = z) :
    Calls Try.prog 101 #[.slice Ap p.length cp, .pointer (some ⟨B, 0, none⟩), .pointer (some ⟨C, 0, none⟩)] w fun e w' => e = .returned (.bool z) ∧ Below w.heap.size w w' := by
  obtain ⟨u, hu⟩ : ∃ u, mtL D p = u := ⟨_, rfl⟩
  obtain ⟨v, hv⟩ : ∃ v, mtL l p = v := ⟨_, rfl⟩
  have HU : Hid (mtV (sgV D) (sgV p) = u) := Lib.hid hu
  have HV : Hid (mtV (sgV l) (sgV p) = v) := Lib.hid hv
  have HZ : Hid (decide (v < u) = z) := Lib.hid (by rw [← hz, hu, hv])
  have HQ : Hid (∀ W, Below w.heap.size w W → W.cell? ⟨B, 0, none⟩ = some (.slice Ad D.length cd) ∧ W.cell? ⟨C, 0, none⟩ = some (.slice A l.length c)) := Lib.hid fun W hW => ⟨(hW.cell (World.block_lt_of_cell? _ _ k0)).trans k0, (hW.cell (World.block_lt_of_cell? _ _ k1)).trans k1⟩
  have HD3 : Hid (∀ W, Below w.heap.size w W → SeesE 2 encPoint W W.heap.size Ad D) := Lib.hid fun W hW => hd.belowAll hW
  have HL3 : Hid (∀ W, Below w.heap.size w W → SeesE 2 encPoint W W.heap.size A l) := Lib.hid fun W hW => hs.belowAll hW
  have HSp : Hid (∀ W, Below w.heap.size w W → SeesE 2 encPoint W W.heap.size Ap p) := Lib.hid fun W hW => hp.belowAll hW
  have HBd : Hid (Below w.heap.size w w.drew) := Lib.hid (Below.refl _ _).drew
  have HQ0 := Lib.hid (HQ.out _ (Below.refl _ _)); have HQd := Lib.hid (HQ.out _ HBd.out)
  have HDd := Lib.hid (HD3.out _ HBd.out); have HPd := Lib.hid (HSp.out _ HBd.out)
  clear hu hv hz k0 k1 hd hs hp
  go_enter Try.func101, Try.ntmps101
  go_upto_region 1 with fail
  go_region_held3 (fun W => W.cell? ⟨B, 0, none⟩ = some (.slice Ad D.length cd) ∧ W.cell? ⟨C, 0, none⟩ = some (.slice A l.length c)) (first | with_reducible exact HQ0.out | with_reducible exact HQd.out | with_reducible exact HQ9.out | with_reducible exact HQ8.out) (first
    | (go_at_call 38; (with_reducible refine (linesMeet_is Ad Ap cd cp D p _ HDd.out HPd.out hD hpl u HU.out).mono ?_); rintro e w9 ⟨rfl, hb9⟩; have HB9 := Lib.hid (HBd.out.trans (hb9.mono HBd.out.size)); have HQ9 := Lib.hid (HQ.out _ HB9.out); have HL9 := Lib.hid (HL3.out _ HB9.out); have HP9 := Lib.hid (HSp.out _ HB9.out))
    | (go_at_call 38; (with_reducible refine (linesMeet_is A Ap c cp l p _ HL9.out HP9.out hl hpl v HV.out).mono ?_); rintro e w8 ⟨rfl, hb8⟩; have HB8 := Lib.hid (HB9.out.trans (hb8.mono HB9.out.size)); have HQ8 := Lib.hid (HQ.out _ HB8.out))
    | fail)
  all_goals
    go_wp2
    go_ret
    exact ⟨ret_eq HZ.out, HB8.out⟩
set_option maxRecDepth 100000 in
theorem indexMt_is (Ad A Ao : Option Addr) (cd c co : Nat) (D l : List (Int × Int)) (O : List (List (Int × Int))) (B C : Nat) (z : Bool) (w : World) (k0 : w.cell? ⟨B, 0, none⟩ = some (.slice Ad D.length cd)) (k1 : w.cell? ⟨C, 0, none⟩ = some (.slice A l.length c))
    (hd : SeesE 2 encPoint w w.heap.size Ad D) (hs : SeesE 2 encPoint w w.heap.size A l) (ho : SeesLs 2 encPoint w w.heap.size Ao O) (hD : D.length ≤ 1099511627776) (hl : l.length ≤ 1099511627776) (hO : O.length ≤ 1099511627776) (hF : FewLs O) (hz : moreB D l O = z) :
    Calls Try.prog 124 #[.slice Ao O.length co, .func (.func 101) #[] #[.pointer (some ⟨B, 0, none⟩), .pointer (some ⟨C, 0, none⟩)]] w fun e w' => (∃ i : Int, e = .returned (.int .i64 i) ∧ decide (0 ≤ i) = z) ∧ Below w.heap.size w w' := by
  have eg : ∀ args w, (callFunc 101 args).run Try.prog w = .ok (.enter 101 args) w := enters_of Try.func101 (by kernel_rfl) rfl
  have HO := Lib.hid ho; have HZ := Lib.hid hz; have H0 := Lib.hid k0; have H1 := Lib.hid k1; have HD := Lib.hid hd; have HS := Lib.hid hs; have HF := Lib.hid hF
  clear ho hz k0 k1 hd hs hF
  go_enter Try.func124, Try.ntmps124
  go_wp2
  go_loopg [5, 8] O.length (fun g _ s8 wr => ∃ j : Nat, j + g = O.length ∧ s8 = .int .i64 j ∧ Hid (moreB D l (O.take j) = false) ∧ Hid (Below w.heap.size w wr))
  case atStart => exact ⟨0, by omega, rfl, Lib.hid rfl, Lib.hid (Below.refl _ _)⟩
  case round =>
    obtain ⟨j, hg, rfl, HN, HB⟩ := hrel
    by_cases hlt : j < O.length
    · have hlt' : (j : Int) < (O.length : Int) := by omega
      obtain ⟨p, hp⟩ : ∃ p, O[j]? = some p := ⟨_, List.getElem?_eq_getElem hlt⟩
      obtain ⟨b, off, A', c', rfl, hbl, hss, -, q0⟩ := (HO.out.below HB.out).at_ hp
      have hpl : p.length ≤ 1099511627776 := Nat.le_trans (HF.out j _ hp) (by decide)
      have HP := Lib.hid hp
      have G0 := Lib.hid ((HB.out.cell (World.block_lt_of_cell? _ _ H0.out)).trans H0.out)
      have G1 := Lib.hid ((HB.out.cell (World.block_lt_of_cell? _ _ H1.out)).trans H1.out)
      have HSp := Lib.hid (hss.mono HB.out.size)
      have HDr := Lib.hid (HD.out.belowAll HB.out)
      have HSr := Lib.hid (HS.out.belowAll HB.out)
      obtain ⟨v, hv⟩ : ∃ v, decide (mtL l p < mtL D p) = v := ⟨_, rfl⟩
      have HY := Lib.hid hv
      clear hp hss hv
      cases v
      all_goals
        go_wp2_with (go_at_fn 101; refine (meetsMore_is Ad A A' cd c c' D l p B C _ _ G0.out G1.out HDr.out HSr.out HSp.out hD hl hpl HY.out).mono ?_; rintro e9 w9 ⟨rfl, hb9⟩)
      · have HB9 := Lib.hid (HB.out.trans (hb9.mono HB.out.size))
        have HNx : Hid (moreB D l (O.take (j + 1)) = false) := Lib.hid (by rw [moreB_take HP.out, HN.out, HY.out]; rfl)
        go_roundg (O.length - (j + 1))
        case measure => omega
        case rel => exact ⟨j + 1, by omega, by go_num, HNx, HB9⟩
      · obtain rfl : true = z := by
          rw [← HZ.out]
          exact (List.any_eq_true.2 ⟨_, List.mem_of_getElem? HP.out, HY.out⟩).symm
        go_ret
        exact ⟨by first | exact ⟨_, rfl, decide_eq_true (by omega)⟩ | (simp; done) | (simp; omega), HB.out.trans (hb9.mono HB.out.size)⟩
    · obtain rfl : j = O.length := by omega
      have hlt' : ¬ (O.length : Int) < (O.length : Int) := by omega
      obtain rfl : false = z := by rw [← HZ.out]; have := HN.out; rw [List.take_length] at this; exact this.symm
      go_wp2
      go_ret
      exact ⟨by first | exact ⟨_, rfl, rfl⟩ | simp, HB.out⟩
set_option maxRecDepth 100000 in
theorem containsMt_is (Ad A Ao : Option Addr) (cd c co : Nat) (D l : List (Int × Int)) (O : List (List (Int × Int))) (B C : Nat) (z : Bool) (w : World) (k0 : w.cell? ⟨B, 0, none⟩ = some (.slice Ad D.length cd)) (k1 : w.cell? ⟨C, 0, none⟩ = some (.slice A l.length c))
    (hd : SeesE 2 encPoint w w.heap.size Ad D) (hs : SeesE 2 encPoint w w.heap.size A l) (ho : SeesLs 2 encPoint w w.heap.size Ao O) (hD : D.length ≤ 1099511627776) (hl : l.length ≤ 1099511627776) (hO : O.length ≤ 1099511627776) (hF : FewLs O) (hz : moreB D l O = z) :
    Calls Try.prog 102 #[.slice Ao O.length co, .func (.func 101) #[] #[.pointer (some ⟨B, 0, none⟩), .pointer (some ⟨C, 0, none⟩)]] w fun e w' => e = .returned (.bool z) ∧ Below w.heap.size w w' := by
  go_enter Try.func102, Try.ntmps102
  go_wp2_with fail
  refine (indexMt_is Ad A Ao cd c co D l O B C z w k0 k1 hd hs ho hD hl hO hF hz).mono ?_
  rintro e9 w1 ⟨⟨i, rfl, hi⟩, hb1⟩
  subst hi
  go_wp2
  go_ret
  exact ⟨rfl, hb1⟩
set_option maxRecDepth 100000 in
set_option maxHeartbeats 4000000 in
theorem canDrop_is (A Ao : Option Addr) (c co : Nat) (l : List (Int × Int)) (i : Int) (O : List (List (Int × Int))) (z : Bool) (w : World) (hs : SeesE 2 encPoint w w.heap.size A l) (ho : SeesLs 2 encPoint w w.heap.size Ao O) (hl : l.length ≤ 274877906944) (hlc : l.length ≤ c) (hc : (c : Int) ≤ 9223372036854775807) (hO : O.length ≤ 1099511627776) (hF : FewLs O) (hz : canV l i O = z) :
    Calls Try.prog 46 #[.slice A l.length c, .int .i64 i, .slice Ao O.length co] w fun e w' => e = .returned (.bool z) ∧ Below w.heap.size w w' := by
  have hmf : ∀ (fn : Fn) (first cap : Array Value) (w : World), (Instr.makeFunc fn first cap).run Try.prog w = .ok (.func fn first cap) w := fun _ _ _ _ => rfl
  have HV := Lib.hid (Vars.of1 w #[.slice A l.length c] 47)
  have HS := Lib.hid (hs.belowAll HV.out.1); have HO := Lib.hid (ho.belowAll HV.out.1); have HF := Lib.hid hF
  have HZ := Lib.hid hz
  have k0 := HV.out.c1 w.heap.size 0 rfl rfl
  clear hs ho hF hz
  go_enter Try.func46, Try.ntmps46
  go_wp2_with fail
  refine (dropPoint_any A c l i _ HS.out hl hlc hc).mono ?_
  rintro e w1 ⟨Ad, cd, D, k, hD, hk, rfl, hod, hb1⟩
  have HD := hD; have HK := hk
  have HV1 := Lib.hid (HV.out.next hb1)
  have HSd := Lib.hid (hod.sees elPoint)
  have HSl := Lib.hid (HS.out.belowAll hb1)
  have HO1 := Lib.hid (HO.out.belowAll hb1)
  have hDl : D.length ≤ 1099511627776 := by rw [hD.out]; have := dropV_len l i; omega
  have hll : l.length ≤ 1099511627776 := by omega
  have HL2 : Hid (OneV w.heap.size (w1.alloc (.cells #[.slice Ad D.length cd] 47)) w1.heap.size #[.slice Ad D.length cd]) := Lib.hid (OneV.new (m := w.heap.size) w1 HV1.out.1.size #[.slice Ad D.length cd] 47)
  have hb2 : Below w1.heap.size w1 (w1.alloc (.cells #[.slice Ad D.length cd] 47)) := (Below.refl _ w1).alloc (Nat.le_refl _) _
  have HV2 := Lib.hid (HV1.out.next hb2)
  have HSd2 := Lib.hid (HSd.out.belowAll hb2)
  have HSl2 := Lib.hid (HSl.out.belowAll hb2)
  have HO2 := Lib.hid (HO1.out.belowAll hb2)
  have k1 := HL2.out.cell 0 rfl
  clear hod hb1 hb2 hD hk k0 HV HS HO HV1 HSd HSl HO1
  cases k
  · obtain rfl : false = z := by rw [← HZ.out]; unfold canV; rw [← HK.out]; rfl
    go_wp2
    go_ret
    exact ⟨rfl, HV2.out.1⟩
  cases hsm : smpV D
  · obtain rfl : false = z := by rw [← HZ.out]; unfold canV; rw [← HK.out, ← HD.out, hsm]; rfl
    go_wp2_with fail
    refine (isSimple_is Ad cd D _ HSd2.out hDl _ hsm).mono ?_
    rintro e w2 ⟨rfl, hb2⟩
    go_wp2
    go_ret
    exact ⟨rfl, (HV2.out.next hb2).1⟩
  have HZ2 : Hid (noMtB D l O = z) := Lib.hid (by rw [← HZ.out]; unfold canV; rw [← HK.out, ← HD.out, hsm]; rfl)
  obtain ⟨m, hm⟩ : ∃ m, moreB D l O = m := ⟨_, rfl⟩
  have HM := Lib.hid hm
  have HZ3 : Hid ((!m) = z) := Lib.hid (by rw [← HZ2.out, ← moreB_not, hm])
  clear hm HZ HZ2
  go_wp2_with fail
  refine (isSimple_is Ad cd D _ HSd2.out hDl _ hsm).mono ?_
  rintro e w2 ⟨rfl, hb2⟩
  have HV3 := Lib.hid (HV2.out.next hb2)
  have HL3 := Lib.hid (HL2.out.next hb2)
  have HSd3 := Lib.hid (HSd2.out.belowAll hb2)
  have HSl3 := Lib.hid (HSl2.out.belowAll hb2)
  have HO3 := Lib.hid (HO2.out.belowAll hb2)
  clear hb2 hsm k1
  go_wp2_with fail
  refine (containsMt_is Ad A Ao cd c co D l O w1.heap.size w.heap.size m _ (HL3.out.cell 0 rfl) (HV3.out.c1 w.heap.size 0 rfl rfl) HSd3.out HSl3.out HO3.out hDl hll hO HF.out HM.out).mono ?_
  rintro e w4 ⟨rfl, hb4⟩
  go_wp2
  go_ret
  exact ⟨ret_eq HZ3.out, (HV3.out.next hb4).1⟩
set_option maxRecDepth 100000 in
set_option maxHeartbeats 4000000 in
theorem meetsAll_any (A Ao : Option Addr) (c co : Nat) (l : List (Int × Int)) (O : List (List (Int × Int))) (w : World) (hs : SeesE 2 encPoint w w.heap.size A l) (ho : SeesLs 2 encPoint w w.heap.size Ao O) (hl : l.length ≤ 1099511627776) (hO : O.length ≤ 1099511627776) (hF : FewLs O) :
    Calls Try.prog 44 #[.slice A l.length c, .slice Ao O.length co] w (Gives 3 .i64 (mtsV l O) w) := by
  have HS := Lib.hid hs; have HO := Lib.hid ho; have HF := Lib.hid hF
  clear hs ho hF
  go_enter Try.func44, Try.ntmps44
  go_wp2
  go_loopw [5, 7, 11] (fun s5 _ s6 wr => ∃ (j : Nat) (A1 : Option Addr) (c1 : Nat) (L : List Int), j ≤ O.length ∧ s6 = .int .i64 (j : Int) ∧ s5 = .slice A1 L.length c1 ∧ Hid (L = mtsV l (O.take j)) ∧ L.length ≤ O.length ∧ Hid (Own wr w.heap.size 3 .i64 (.slice A1 L.length c1) L) ∧ Hid (Below w.heap.size w wr)) (fun _ _ s6 _ => O.length - (intOf s6).toNat)
  case atStart => exact ⟨0, _, 0, [], Nat.zero_le _, rfl, rfl, Lib.hid rfl, Nat.zero_le _, Lib.hid (Own.lit _ _ _ _ (Nat.le_refl _)), Lib.hid ((Below.refl _ _).alloc (Nat.le_refl _) _)⟩
  case round =>
    obtain ⟨j, A1, c1, L, hj, rfl, rfl, HL, hLl, HOw, HB⟩ := hrel
    by_cases hlt : j < O.length
    · have hlt' : (j : Int) < (O.length : Int) := by omega
      obtain ⟨p, hp⟩ : ∃ p, O[j]? = some p := ⟨_, List.getElem?_eq_getElem hlt⟩
      obtain ⟨b, off, A', c', rfl, hbl, hss, -, q0⟩ := (HO.out.below HB.out).at_ hp
      have hpl : p.length ≤ 1099511627776 := Nat.le_trans (HF.out j _ hp) (by decide)
      have HP := Lib.hid hp
      obtain ⟨u, hu⟩ : ∃ u, mtL l p = u := ⟨_, rfl⟩
      have HU : Hid (mtV (sgV l) (sgV p) = u) := Lib.hid hu
      have HSp := Lib.hid (hss.mono HB.out.size)
      have HSl := Lib.hid (HS.out.belowAll HB.out)
      have hLj : L.length = j := by rw [HL.out, mtsV_len, List.length_take]; omega
      have HLj := Lib.hid hLj
      have hL10 : L.length + 1 ≤ 17592186044416 := by omega
      clear hp hss hu hLj
      go_wp2_with fail
      refine (linesMeet_is A A' c c' l p _ HSl.out HSp.out hl hpl u HU.out).mono ?_
      rintro e w1 ⟨rfl, hb1⟩
      have HO1 := Lib.hid (HOw.out.belowAll hb1)
      have HB1 := Lib.hid (HB.out.trans (hb1.mono HB.out.size))
      have hz1 := HB1.out.size
      clear hb1 q0
      go_wp2_with (at_builtin; refine app64 _ rfl _ _ rfl w.heap.size _ L rfl (HO1.out.alloc _) (w1.heap.size + 1) _ 1 _ [u] rfl rfl (sees_new w1 .i64 u _ _ (Nat.lt_succ_self _)) (by simp; omega) (by simp; omega) ?_; intro A4 c4 L4 w4 hL4 h1 h2 ho4 hb4)
      go_roundw
      case rel => exact ⟨j + 1, A4, c4, L4, by omega, by go_num, rfl, Lib.hid (by rw [hL4.out, HL.out, mts_take HP.out, ← HU.out]; rfl), by have := HLj.out; simp at h1; omega, Lib.hid ho4, Lib.hid ((HB1.out.alloc hz1 _).trans hb4)⟩
      case measure => simp [intOf]; omega
    · obtain rfl : j = O.length := by omega
      have hlt' : ¬ (O.length : Int) < (O.length : Int) := by omega
      go_wp2
      go_ret
      exact ⟨A1, c1, L, Lib.hid (by rw [HL.out, List.take_length]), rfl, HOw.out, HB.out⟩
end Go.Proofs.Ytbnjaaegbmhopaa
end
section
/- The insertion sort, of what rises by a second number, sorts by both: values alone. -/
namespace Go.Proofs.Ytbnjaaegbmhopaa
open Go.Sort
set_option linter.unusedVariables false

section
variable {α : Type} [Inhabited α] {lt lt' : α → α → Bool} {pos : α → Int}
theorem ins_same (hlt : ∀ x y, pos y < pos x → lt x y = lt' x y) : ∀ (j : Nat) (d : Array α), j < d.size → (∀ p, p < j → pos d[p]! < pos d[j]!) → insInner lt 0 j d = insInner lt' 0 j d
  | 0, d, _, _ => by unfold insInner; rfl
  | j + 1, d, hj, h => by
    have e := hlt d[j + 1]! d[j]! (h j (by omega))
    unfold insInner
    rw [e]
    split
    · refine ins_same hlt j _ (by rw [swp_size]; omega) fun p hp => ?_
      have g := swp_get d (i := j + 1) (j := j) hj (by omega)
      rw [g, g, if_neg (by omega), if_neg (by omega), if_pos rfl]
      exact h p (by omega)
    · rfl
theorem ins_keep : ∀ (j : Nat) (d : Array α), j < d.size → (insInner lt 0 j d).size = d.size ∧ (∀ q, j < q → (insInner lt 0 j d)[q]! = d[q]!) ∧ (∀ p, p ≤ j → ∃ p', p' ≤ j ∧ (insInner lt 0 j d)[p]! = d[p']!)
  | 0, d, _ => by unfold insInner; exact ⟨rfl, fun _ _ => rfl, fun p hp => ⟨p, hp, rfl⟩⟩
  | j + 1, d, hj => by
    unfold insInner
    split
    · have g := swp_get d (i := j + 1) (j := j) hj (by omega)
      obtain ⟨h1, h2, h3⟩ := ins_keep j (swp d (j + 1) j) (by rw [swp_size]; omega)
      refine ⟨by rw [h1, swp_size], fun q hq => ?_, fun p hp => ?_⟩
      · rw [h2 q (by omega), g, if_neg (by omega), if_neg (by omega)]
      · by_cases hpj : p ≤ j
        · obtain ⟨p', hp', e⟩ := h3 p hpj
          rw [e, g]
          by_cases h4 : p' = j
          · exact ⟨j + 1, Nat.le_refl _, if_pos h4⟩
          · rw [if_neg h4, if_neg (by omega)]; exact ⟨p', by omega, rfl⟩
        · obtain rfl : p = j + 1 := by omega
          rw [h2 (j + 1) (by omega), g, if_neg (by omega), if_pos rfl]
          exact ⟨j, by omega, rfl⟩
    · exact ⟨rfl, fun _ _ => rfl, fun p hp => ⟨p, hp, rfl⟩⟩
theorem outer_same (hlt : ∀ x y, pos y < pos x → lt x y = lt' x y) : ∀ (n i b : Nat) (d : Array α), b - i = n → b ≤ d.size → (∀ q, i ≤ q → q < b → ∀ p, p < q → pos d[p]! < pos d[q]!) → insOuter lt 0 b i d = insOuter lt' 0 b i d
  | 0, i, b, d, hn, _, _ => by rw [insOuter_stop _ _ _ _ _ (by omega), insOuter_stop _ _ _ _ _ (by omega)]
  | n + 1, i, b, d, hn, hb, h => by
    have hib : i < b := by omega
    rw [insOuter_go _ _ _ _ _ hib, insOuter_go _ _ _ _ _ hib, ins_same hlt i d (by omega) (fun p hp => h i (Nat.le_refl _) hib p hp)]
    obtain ⟨h1, h2, h3⟩ := ins_keep (lt := lt') i d (by omega)
    refine outer_same hlt n (i + 1) b _ (by omega) (by rw [h1]; exact hb) fun q hq hqb p hp => ?_
    rw [h2 q (by omega)]
    by_cases hpi : p ≤ i
    · obtain ⟨p', hp', e⟩ := h3 p hpi
      rw [e]
      exact h q (by omega) hqb p' (by omega)
    · rw [h2 p (by omega)]
      exact h q (by omega) hqb p hp
theorem stable_both (hlt : ∀ x y, pos y < pos x → lt x y = lt' x y) (hS : SWO lt') (d : Array α) (h : ∀ q, q < d.size → ∀ p, p < q → pos d[p]! < pos d[q]!) :
    PermIn 0 d.size d (insertionSort lt d 0 d.size) ∧ SortedIn lt' 0 d.size (insertionSort lt d 0 d.size) := by
  have e : insertionSort lt d 0 d.size = insertionSort lt' d 0 d.size := by
    unfold insertionSort
    exact outer_same hlt _ 1 d.size d rfl (Nat.le_refl _) fun q _ hq p hp => h q hq p hp
  rw [e]
  exact insertionSort_holds hS d 0 d.size (Nat.zero_le _) (Nat.le_refl _)
end

/-! ### Corners by size -/
/-- A corner: its index and its area. -/
abbrev Cor := Int × Int
def cfC (x y : Cor) : Int := cmpV x.2 y.2
def ltA (x y : Cor) : Bool := decide (cfC x y < 0)
def ltL (x y : Cor) : Bool := decide (x.2 < y.2) || (decide (x.2 = y.2) && decide (x.1 < y.1))
theorem ltA_eq (x y : Cor) : ltA x y = decide (x.2 < y.2) := by
  unfold ltA cfC
  rcases cmp_bd x.2 y.2 with ⟨h, h1⟩ | ⟨h, h1⟩ | ⟨h, h1⟩ <;> rw [h] <;> simp <;> omega
theorem ltA_L (x y : Cor) (h : y.1 < x.1) : ltA x y = ltL x y := by
  rw [ltA_eq]; unfold ltL
  rw [decide_eq_false (p := x.1 < y.1) (by omega)]; simp
theorem swoL : SWO ltL where
  irrefl x := by simp [ltL]
  trans x y z h1 h2 := by simp only [ltL, Bool.or_eq_true, Bool.and_eq_true, decide_eq_true_eq] at *; omega
  ntrans x y z h1 h2 := by
    simp only [ltL, Bool.or_eq_false_iff, Bool.and_eq_false_iff, decide_eq_false_iff_not] at *; omega
/-- The small ones of the first t corners, as they come. -/
def waitS (l : List (Int × Int)) (least : Int) : Nat → List Cor
  | 0 => []
  | t + 1 => if crnV l ((t + 1 : Nat) : Int) < least then waitS l least t ++ [(((t + 1 : Nat) : Int), crnV l ((t + 1 : Nat) : Int))] else waitS l least t
def waitV (l : List (Int × Int)) (least : Int) : List Cor := waitS l least (l.length - 2)
theorem waitS_len (l : List (Int × Int)) (least : Int) : ∀ t, (waitS l least t).length ≤ t
  | 0 => Nat.le_refl _
  | t + 1 => by
    have := waitS_len l least t
    unfold waitS; split
    · simp; omega
    · omega
theorem waitS_mem {l : List (Int × Int)} {least : Int} : ∀ {t : Nat} {x : Cor}, x ∈ waitS l least t ↔ ∃ j : Nat, 1 ≤ j ∧ j ≤ t ∧ x = ((j : Int), crnV l (j : Int)) ∧ crnV l (j : Int) < least
  | 0, x => by simp [waitS]; omega
  | t + 1, x => by
    have ih := waitS_mem (l := l) (least := least) (t := t) (x := x)
    unfold waitS
    constructor
    · intro h
      have h' : x ∈ waitS l least t ∨ (crnV l ((t + 1 : Nat) : Int) < least ∧ x = (((t + 1 : Nat) : Int), crnV l ((t + 1 : Nat) : Int))) := by
        split at h
        · next hs =>
          rcases List.mem_append.1 h with h | h
          · exact .inl h
          · exact .inr ⟨hs, List.mem_singleton.1 h⟩
        · exact .inl h
      rcases h' with h' | ⟨h1, h2⟩
      · obtain ⟨j, a, b, c⟩ := ih.1 h'
        exact ⟨j, a, by omega, c⟩
      · exact ⟨t + 1, by omega, Nat.le_refl _, h2, h1⟩
    · rintro ⟨j, a, b, c, d⟩
      by_cases e : j = t + 1
      · subst e
        rw [if_pos d]
        exact List.mem_append.2 (.inr (List.mem_singleton.2 c))
      · have := ih.2 ⟨j, a, by omega, c, d⟩
        split
        · exact List.mem_append.2 (.inl this)
        · exact this
theorem waitS_rise (l : List (Int × Int)) (least : Int) : ∀ t, (waitS l least t).Pairwise fun x y => x.1 < y.1
  | 0 => List.Pairwise.nil
  | t + 1 => by
    unfold waitS
    split
    · refine List.pairwise_append.2 ⟨waitS_rise l least t, List.pairwise_singleton _ _, fun x hx y hy => ?_⟩
      obtain ⟨j, -, h2, rfl, -⟩ := waitS_mem.1 hx
      rw [List.mem_singleton.1 hy]
      show (j : Int) < ((t + 1 : Nat) : Int)
      omega
    · exact waitS_rise l least t
/-- Sorted by size, the first one of equals first. -/
def queueV (W : List Cor) : List Cor := (insertionSort ltA W.toArray 0 W.toArray.size).toList
theorem queue_all {W : List Cor} (h : W.Pairwise fun x y => x.1 < y.1) : (queueV W).Perm W ∧ ∀ (i j : Nat) (x y : Cor), i < j → (queueV W)[i]? = some x → (queueV W)[j]? = some y → ltL y x = false := by
  obtain ⟨⟨h1, -, h3⟩, h4⟩ := stable_both (pos := fun x : Cor => x.1) ltA_L swoL W.toArray (fun q hq p hp => by
    have hq' : q < W.length := by simpa using hq
    have := List.pairwise_iff_getElem.1 h p q (by omega) hq' hp
    rw [getElem!_pos W.toArray p (by simp; omega), getElem!_pos W.toArray q hq]
    simpa using this)
  refine ⟨?_, fun i j x y hij hx hy => ?_⟩
  · unfold queueV
    have e1 : ∀ (d : Array Cor) (n : Nat), d.size = n → d.extract 0 n = d := fun d n h => by subst h; simp
    rw [e1 _ _ h1, e1 W.toArray _ rfl] at h3
    simpa using h3
  · unfold queueV at hx hy
    generalize hd : insertionSort ltA W.toArray 0 W.toArray.size = d at *
    rw [Array.getElem?_toList] at hx hy
    have hj : j < d.size := (Array.getElem?_eq_some_iff.1 hy).1
    have hi : i < d.size := by omega
    have := h4 i j (Nat.zero_le _) hij (by rw [← h1]; exact hj)
    rw [getElem!_pos d j hj, getElem!_pos d i hi] at this
    have e1 := (Array.getElem?_eq_some_iff.1 hx).2
    have e2 := (Array.getElem?_eq_some_iff.1 hy).2
    rw [e1, e2] at this
    exact this
theorem queue_len (W : List Cor) (h : W.Pairwise fun x y => x.1 < y.1) : (queueV W).length = W.length := (queue_all h).1.length_eq
/-! ### The one that is dropped -/
theorem cutS_best {l : List (Int × Int)} {O : List (List (Int × Int))} {least : Int} : ∀ (t j : Nat), 1 ≤ j → j ≤ t → crnV l (j : Int) < least → canV l (j : Int) O = true → 0 ≤ cutS l O least t ∧ (crnV l (cutS l O least t) < crnV l (j : Int) ∨ crnV l (cutS l O least t) = crnV l (j : Int) ∧ cutS l O least t ≤ (j : Int))
  | 0, j, h1, h2, _, _ => by omega
  | t + 1, j, h1, h2, h3, h4 => by
    by_cases e : j = t + 1
    · subst e
      by_cases hc : crnV l ((t + 1 : Nat) : Int) < least ∧ (cutS l O least t < 0 ∨ crnV l ((t + 1 : Nat) : Int) < crnV l (cutS l O least t)) ∧ canV l ((t + 1 : Nat) : Int) O = true
      · rw [cutS_yes hc]; omega
      · rw [cutS_no hc]
        have hn : ¬ (cutS l O least t < 0 ∨ crnV l ((t + 1 : Nat) : Int) < crnV l (cutS l O least t)) := fun q => hc ⟨h3, q, h4⟩
        rcases cutS_range l O least t with h | ⟨b, hb, -, hb2, -⟩
        · exact absurd (.inl (by omega)) hn
        · omega
    · have ih := cutS_best t j h1 (by omega) h3 h4
      by_cases hc : crnV l ((t + 1 : Nat) : Int) < least ∧ (cutS l O least t < 0 ∨ crnV l ((t + 1 : Nat) : Int) < crnV l (cutS l O least t)) ∧ canV l ((t + 1 : Nat) : Int) O = true
      · rw [cutS_yes hc]; omega
      · rw [cutS_no hc]; exact ih
/-- The first of the queue that can be dropped is the model's. -/
theorem cut_first {l : List (Int × Int)} {O : List (List (Int × Int))} {least : Int} {n : Nat} {x : Cor} (hx : (queueV (waitV l least))[n]? = some x) (hc : canV l x.1 O = true) (hp : ∀ (k : Nat) (y : Cor), k < n → (queueV (waitV l least))[k]? = some y → canV l y.1 O = false) : cutV l O least = x.1 := by
  obtain ⟨hP, hS⟩ := queue_all (waitS_rise l least (l.length - 2))
  have hm : x ∈ waitV l least := hP.mem_iff.1 (List.mem_of_getElem? hx)
  obtain ⟨j, h1, h2, rfl, h3⟩ := waitS_mem.1 hm
  have hb := cutS_best (l.length - 2) j h1 h2 h3 hc
  rcases cutS_range l O least (l.length - 2) with h | ⟨b, hb1, hb2, hb3, hb4, hb5⟩
  · omega
  have hmb : ((b : Int), crnV l (b : Int)) ∈ queueV (waitV l least) := hP.mem_iff.2 (waitS_mem.2 ⟨b, hb2, hb3, rfl, hb4⟩)
  obtain ⟨k, hk⟩ := List.getElem?_of_mem hmb
  have hk' : n ≤ k := by
    by_cases e : k < n
    · have := hp k _ e hk
      rw [hb5] at this; cases this
    · omega
  unfold cutV
  rw [hb1] at hb ⊢
  by_cases e : n = k
  · subst e
    rw [hx] at hk
    have := congrArg Prod.fst (Option.some.inj hk)
    exact this.symm
  · have := hS n k _ _ (by omega) hx hk
    simp only [ltL, Bool.or_eq_false_iff, Bool.and_eq_false_iff, decide_eq_false_iff_not] at this
    show (b : Int) = (j : Int)
    omega
theorem cut_none {l : List (Int × Int)} {O : List (List (Int × Int))} {least : Int} (h : ∀ (k : Nat) (y : Cor), (queueV (waitV l least))[k]? = some y → canV l y.1 O = false) : cutV l O least < 0 := by
  obtain ⟨hP, hS⟩ := queue_all (waitS_rise l least (l.length - 2))
  rcases cutS_range l O least (l.length - 2) with h' | ⟨b, hb1, hb2, hb3, hb4, hb5⟩
  · unfold cutV; omega
  · have hmb : ((b : Int), crnV l (b : Int)) ∈ queueV (waitV l least) := hP.mem_iff.2 (waitS_mem.2 ⟨b, hb2, hb3, rfl, hb4⟩)
    obtain ⟨k, hk⟩ := List.getElem?_of_mem hmb
    have := h k _ hk
    rw [hb5] at this; cases this
end Go.Proofs.Ytbnjaaegbmhopaa
end
section
/- Lines that never cross: smallCorners of package impl: a stable sort of corners. -/
namespace Go.Proofs.Ytbnjaaegbmhopaa
open Go.Shelf Go.ChangeShapes Go.WideShapes Go.ChangeAt Go.RowKit
set_option linter.unusedVariables false

set_option maxRecDepth 100000 in
theorem closureC (x y : Cor) (W : World) : Calls Try.prog 123 #[.agg (enccorner x).toArray, .agg (enccorner y).toArray] W fun e w' => e = .returned (.int .i64 (cfC x y)) ∧ ∃ q os', w' = Sort.grow (W.drewN q) os' := by
  obtain ⟨a, b⟩ := x
  obtain ⟨a', b'⟩ := y
  obtain ⟨r, hr⟩ : ∃ r, cmpV b b' = r := ⟨_, rfl⟩
  have hc : cfC (a, b) (a', b') = r := hr
  have HC := fun W' => compare_any b b' W'
  rw [hr] at HC
  rw [hc]
  clear hr hc
  show Calls Try.prog 123 #[PtV a b, PtV a' b'] W _
  go_enter Try.func123, Try.ntmps123
  go_wp2_with (go_at_call 65; refine (HC _).mono ?_; rintro e w' ⟨rfl, rfl⟩)
  go_ret
  exact ⟨rfl, 0, _, by rw [Sort.alloc_eq_grow, Sort.alloc_eq_grow, Sort.grow_grow]; rfl⟩
theorem cmpLaysC (blk off size : Nat) (w : World) : CmpLays Try.prog 123 #[] enccorner 2 cfC blk off size w := fun _ _ _ _ x y => closureC x y _
theorem holdsC_row {w : World} {g c : Nat} {e : TypeId} {L : List Cor} (h : RowE 2 enccorner w g e c L) : Sort.HoldsK enccorner 2 w g 0 L.toArray := fun j hj => by
  rw [Sort.size_flatK] at hj
  have hj' : j < L.length * 2 := by simpa using hj
  have hq : j / 2 < L.length := by omega
  refine ⟨?_, by rw [Nat.zero_add]; exact h.frozen j⟩
  rw [Sort.get_flatK _ _ _ _ hj]
  have hx : L[j / 2]? = some L.toArray[j / 2]! := by
    rw [getElem!_pos _ _ (by simpa using hq)]; simp [hq]
  obtain ⟨v, hv⟩ : ∃ v, (enccorner L.toArray[j / 2]!)[j % 2]? = some v := ⟨_, List.getElem?_eq_getElem (by show j % 2 < 2; omega)⟩
  have := h.cell elcorner hx hv
  rw [show j / 2 * 2 + j % 2 = 0 + j by omega] at this
  rw [this, List.getElem!_eq_getElem?_getD, hv]; rfl
theorem seesC_holds {w : World} {g : Nat} {d : Array Cor} (h : Sort.HoldsK enccorner 2 w g 0 d) (hg : g < w.heap.size) : SeesE 2 enccorner w w.heap.size (some ⟨g, 0, none⟩) d.toList := fun j x hx => by
  have hj : j < d.size := by have := (List.getElem?_eq_some_iff.1 hx).1; simpa using this
  refine ⟨g, 0, rfl, hg, fun k v hv => ?_⟩
  have hk : k < 2 := by have := (List.getElem?_eq_some_iff.1 hv).1; exact this
  have := (h.cell hj hk).1
  rw [this]
  have hx' : d[j]! = x := by rw [getElem!_pos d j hj]; simpa [hj] using hx
  rw [hx', List.getElem!_eq_getElem?_getD, hv]; rfl
theorem grownBy_sortedC {w : World} {g n : Nat} {os : Array Obj} (d : Array Cor) : w.grownBy (sortWorldK enccorner 2 w g 0 n d os) (some g) := by
  refine ⟨rfl, rfl, rfl, by simp [sortWorldK, Sort.putRowK, Sort.grow, Sort.putRow, Sort.mapBlock, Sort.ahead], fun k hk hne => ?_⟩
  have : g ≠ k := fun e => hne (by rw [e])
  unfold sortWorldK
  rw [Sort.heap_grow_old _ _ (by simpa [Sort.putRowK, Sort.putRow, Sort.mapBlock, Sort.ahead] using hk)]
  simp [Sort.putRowK, Sort.putRow, Sort.mapBlock, Sort.ahead, Array.getElem?_modify, this]
set_option maxRecDepth 100000 in
theorem insSort_any (g c : Nat) (L : List Cor) (w : World) (h : RowE 2 enccorner w g 120 c L) (hl : L.length ≤ 1099511627776) (hR : L.Pairwise fun x y => x.1 < y.1) :
    Calls Try.prog 133 #[.slice (some ⟨g, 0, none⟩) L.length c, .int .i64 0, .int .i64 L.length, .func (.func 123) #[] #[]] w fun e w' => e = .returned (.tuple #[]) ∧ SeesE 2 enccorner w' w'.heap.size (some ⟨g, 0, none⟩) (queueV L) ∧ Below g w w' := by
  have eg : ∀ args w, (callFunc 123 args).run Try.prog w = .ok (.enter 123 args) w := enters_of Try.func123 (by kernel_rfl) rfl
  have hcon := AnyQ.insertionSortCmpFunc Try.sortCor 2 Try.isAgg120 Try.sizeOf120 enccorner (fun _ => rfl) (fun x v hv => (elcorner.2 x).2 v hv) cfC 123 #[] g 0 c 0 L.length L.toArray w eg (cmpLaysC g 0 _ w) (holdsC_row h) h.lt (Nat.zero_le _) (by simp) (by simp; omega)
  rw [show L.toArray.size = L.length from by simp] at hcon
  refine Calls.mono hcon ?_
  rintro e w' ⟨he, n, os, rfl⟩
  have hq : (Sort.insertionSort (ltOf cfC) L.toArray 0 L.length).toList = queueV L := by
    unfold queueV
    rw [show L.toArray.size = L.length from by simp]; rfl
  have hd : (Sort.insertionSort (ltOf cfC) L.toArray 0 L.length).size = L.toArray.size := by
    rw [← Array.length_toList, hq, queue_len L hR]; simp
  have hH := holdsK_sortWorldK enccorner 2 w g 0 n L.toArray _ os h.lt (holdsC_row h) hd
  refine ⟨he, ?_, (Below.refl g w).grown (grownBy_sortedC _) (Nat.le_of_lt h.lt) (fun k hk => by cases hk; exact Nat.le_refl _)⟩
  rw [← hq]
  exact seesC_holds hH (lt_sortWorldK _ _ _ _ _ _ _ _ h.lt)
theorem queue_nil : queueV [] = [] := by
  have := (queue_all (W := []) List.Pairwise.nil).1
  exact this.eq_nil
set_option maxRecDepth 100000 in
set_option maxHeartbeats 4000000 in
theorem stableCmp_any (B : Nat) (A : Option Addr) (c : Nat) (L : List Cor) (w : World) (h : OwnE 2 enccorner w B 120 (.slice A L.length c) L) (hB : B ≤ w.heap.size) (hl : L.length ≤ 8) (hR : L.Pairwise fun x y => x.1 < y.1) :
    Calls Try.prog 131 #[.slice A L.length c, .int .i64 L.length, .func (.func 123) #[] #[]] w fun e w' => e = .returned (.tuple #[]) ∧ SeesE 2 enccorner w' w'.heap.size A (queueV L) ∧ Below B w w' := by
  have h20 : ¬ (20 : Int) ≤ (L.length : Int) := by omega
  have h20' : ¬ (20 : Int) < (L.length : Int) := by omega
  have HC : Hid (∀ W, W = w → Calls Try.prog 133 #[.slice A L.length c, .int .i64 0, .int .i64 L.length, .func (.func 123) #[] #[]] W fun e w' => e = .returned (.tuple #[]) ∧ SeesE 2 enccorner w' w'.heap.size A (queueV L) ∧ Below B w w') := Lib.hid (by
    rintro W rfl
    by_cases h0 : 0 < L.length
    · obtain ⟨g, rfl, hBg, -, hr⟩ := h.row h0
      refine (insSort_any g c L W hr (by omega) hR).mono ?_
      rintro e w' ⟨he, hs, hb⟩
      exact ⟨he, hs, hb.mono hBg⟩
    · obtain rfl : L = [] := List.length_eq_zero_iff.1 (by omega)
      refine (AnyF.insertionSortCmpFunc_none Try.sortCor A c _ W).mono ?_
      rintro e w' ⟨he, rfl⟩
      exact ⟨he, by rw [queue_nil]; exact SeesE.nil, Below.refl _ _⟩)
  clear h
  go_enter Try.func131, Try.ntmps131
  go_wp2
  go_loopw [7, 8] (fun s7 s8 wr => s7 = .int .i64 0 ∧ s8 = .int .i64 20 ∧ wr = w) (fun _ _ _ => 0)
  case atStart => exact ⟨rfl, rfl, rfl⟩
  case round =>
    obtain ⟨rfl, rfl, rfl⟩ := hrel
    go_wp2_with fail
    refine (HC.out _ rfl).mono ?_
    rintro e w1 ⟨rfl, hs1, hb1⟩
    have HS1 := Lib.hid hs1; have HB1 := Lib.hid hb1
    clear hs1 hb1
    go_wp2
    go_loopw [6, 7, 8, 9] (fun s6 s7 s8 _ wr2 => s6 = .int .i64 20 ∧ s7 = .int .i64 0 ∧ s8 = .int .i64 20 ∧ wr2 = w1) (fun _ _ _ _ _ => 0)
    case atStart => exact ⟨rfl, rfl, rfl, rfl⟩
    case round =>
      obtain ⟨rfl, rfl, rfl, rfl⟩ := hrel
      go_wp2
      go_end0
      exact ⟨rfl, HS1.out, HB1.out⟩
set_option maxRecDepth 100000 in
theorem sortStable_any (B : Nat) (A : Option Addr) (c : Nat) (L : List Cor) (w : World) (h : OwnE 2 enccorner w B 120 (.slice A L.length c) L) (hB : B ≤ w.heap.size) (hl : L.length ≤ 8) (hR : L.Pairwise fun x y => x.1 < y.1) :
    Calls Try.prog 122 #[.slice A L.length c, .func (.func 123) #[] #[]] w fun e w' => e = .returned (.tuple #[]) ∧ SeesE 2 enccorner w' w'.heap.size A (queueV L) ∧ Below B w w' := by
  go_enter Try.func122, Try.ntmps122
  go_wp2_with fail
  refine (stableCmp_any B A c L w h hB hl hR).mono ?_
  rintro e w1 ⟨rfl, hs1, hb1⟩
  go_wp2
  go_end0
  exact ⟨rfl, hs1, hb1⟩
theorem wait_yes {l : List (Int × Int)} {least a : Int} {t : Nat} {W W' : List Cor} (hW : W = waitS l least t) (ha : crnV l ((t + 1 : Nat) : Int) = a) (h : a < least) (hW' : W' = W ++ [(((t + 1 : Nat) : Int), a)]) : W' = waitS l least (t + 1) := by
  subst ha; rw [hW', hW, waitS, if_pos h]
theorem wait_no {l : List (Int × Int)} {least a : Int} {t : Nat} {W : List Cor} (hW : W = waitS l least t) (ha : crnV l ((t + 1 : Nat) : Int) = a) (h : ¬ a < least) : W = waitS l least (t + 1) := by
  subst ha; rw [hW, waitS, if_neg h]
set_option maxRecDepth 100000 in
set_option maxHeartbeats 4000000 in
theorem smallCorners_any (A : Option Addr) (c : Nat) (l : List (Int × Int)) (least : Int) (w : World) (hs : SeesE 2 encPoint w w.heap.size A l) (h2 : 2 ≤ l.length) (h10 : l.length ≤ 10) :
    Calls Try.prog 98 #[.slice A l.length c, .int .i64 least] w fun e w' => ∃ A1 c1 Q, Hid (Q = queueV (waitV l least)) ∧ Q.length ≤ 8 ∧ e = .returned (.slice A1 Q.length c1) ∧ SeesE 2 enccorner w' w'.heap.size A1 Q ∧ Below w.heap.size w w' := by
  have HS := Lib.hid hs; clear hs
  have hwl : IntKind.i64.wrap ((l.length : Int) - 1) = (l.length : Int) - 1 := by rw [IntKind.wrap_i64]; omega
  go_enter Try.func98, Try.ntmps98
  go_wp2
  go_loopw [5, 6, 7] (fun s5 s6 _ wr => ∃ (t : Nat) (A1 : Option Addr) (c1 : Nat) (W : List Cor), t + 2 ≤ l.length ∧ s6 = .int .i64 ((t + 1 : Nat) : Int) ∧ s5 = .slice A1 W.length c1 ∧ Hid (W = waitS l least t) ∧ W.length ≤ t ∧ Hid (OwnE 2 enccorner wr w.heap.size 120 (.slice A1 W.length c1) W) ∧ Hid (Below w.heap.size w wr)) (fun _ s6 _ _ => l.length - (intOf s6).toNat)
  case atStart => exact ⟨0, _, 0, [], by omega, by go_num, rfl, Lib.hid rfl, Nat.le_refl _, Lib.hid (OwnE.lit _ _ _ (Nat.le_refl _)), Lib.hid ((Below.refl _ w).alloc (Nat.le_refl _) _)⟩
  case round =>
    obtain ⟨t, A1, c1, W, ht, rfl, rfl, HW, hWt, HO, HB⟩ := hrel
    by_cases hlt : t + 2 < l.length
    · have hlt' : ((t + 1 : Nat) : Int) < (l.length : Int) - 1 := by omega
      obtain ⟨a, ha⟩ : ∃ a, crnV l ((t + 1 : Nat) : Int) = a := ⟨_, rfl⟩
      have HA := Lib.hid ha
      have HSr := Lib.hid (HS.out.belowAll HB.out)
      obtain ⟨i, hi⟩ : ∃ i : Int, ((t + 1 : Nat) : Int) = i := ⟨_, rfl⟩
      have HI := Lib.hid hi
      have hi0 : 0 ≤ i ∧ i ≤ 10 := by omega
      have hw1 : IntKind.i64.wrap (i + 1) = i + 1 := by rw [IntKind.wrap_i64]; omega
      rw [hi] at ha hlt' ⊢
      clear hi
      have HAi := Lib.hid ha
      clear ha
      go_wp2_with fail
      refine (cornerArea_is A c l i a _ HSr.out (by omega) HAi.out).mono ?_
      rintro e w2 ⟨rfl, hb2⟩
      have HO2 := Lib.hid (HO.out.belowAll hb2)
      have HB2 := Lib.hid (HB.out.trans (hb2.mono HB.out.size))
      have hz2 := HB2.out.size
      clear hb2
      by_cases hal : a < least
      · have hW1 : W.length + [((i, a) : Cor)].length ≤ 1099511627776 := by simp; omega
        go_wp2_with (at_builtin; refine appcorner _ rfl _ _ rfl w.heap.size _ W rfl (HO2.out.alloc _) (w2.heap.size + 1) (some ⟨w2.heap.size, 0, none⟩) 1 1 [(i, a)] rfl rfl (seesE_new elcorner w2 (i, a) _ _ _ (Nat.lt_succ_self _) rfl) hW1 (by simp; omega) ?_; intro A3 c3 L3 w3 hL3 h3 h4 ho3 hb3)
        go_roundw
        case rel => exact ⟨t + 1, A3, c3, L3, by omega, by have := HI.out; go_num, rfl, Lib.hid (wait_yes HW.out HA.out hal (by rw [hL3.out, ← HI.out])), by simp at h3; omega, Lib.hid ho3, Lib.hid ((HB2.out.alloc hz2 _).trans hb3)⟩
        case measure => have := HI.out; simp [intOf]; omega
      · go_wp2
        go_roundw
        case rel => exact ⟨t + 1, A1, c1, W, by omega, by have := HI.out; go_num, rfl, Lib.hid (wait_no HW.out HA.out (by omega)), by omega, HO2, HB2⟩
        case measure => have := HI.out; simp [intOf]; omega
    · have hlt' : ¬ ((t + 1 : Nat) : Int) < (l.length : Int) - 1 := by omega
      have HW2 : Hid (W = waitV l least) := Lib.hid (by rw [HW.out]; unfold waitV; congr 1; omega)
      have hW8 : W.length ≤ 8 := by omega
      have HR : Hid (W.Pairwise fun x y => x.1 < y.1) := Lib.hid (by rw [HW.out]; exact waitS_rise _ _ _)
      have HL : Hid ((queueV W).length = W.length) := Lib.hid (queue_len W HR.out)
      go_wp2_with fail
      refine (sortStable_any w.heap.size A1 c1 W _ HO.out HB.out.size hW8 HR.out).mono ?_
      rintro e w2 ⟨rfl, hs2, hb2⟩
      go_wp2
      go_ret
      exact ⟨A1, c1, queueV W, Lib.hid (by rw [HW2.out]), by rw [HL.out]; exact hW8, by rw [HL.out]; rfl, hs2, HB.out.trans hb2⟩
end Go.Proofs.Ytbnjaaegbmhopaa
end
section
/- Lines that never cross: SafeSimplify of package impl. -/
namespace Go.Proofs.Ytbnjaaegbmhopaa
open Go.Shelf Go.ChangeShapes Go.WideShapes Go.ChangeAt Go.RowKit
set_option linter.unusedVariables false

/-- None of the first j can be dropped. -/
def NoneBy (Q : List Cor) (l : List (Int × Int)) (O : List (List (Int × Int))) (j : Nat) : Prop := ∀ (k : Nat) (y : Cor), k < j → Q[k]? = some y → canV l y.1 O = false
theorem none_cut {l : List (Int × Int)} {O : List (List (Int × Int))} {least : Int} {Q : List Cor} (hQ : Q = queueV (waitV l least)) (h : NoneBy Q l O Q.length) {k : Nat} : safeS O least k l = l := by
  subst hQ
  exact safe_stop (cut_none fun k y hy => h k y (List.getElem?_eq_some_iff.1 hy).1 hy)
/-- One more round: what is left is as good, and shorter. -/
theorem next_cut {l D : List (Int × Int)} {O : List (List (Int × Int))} {least i a : Int} {n : Nat} {Q : List Cor} (hQ : Q = queueV (waitV l least)) (hx : Q[n]? = some (i, a)) (hc : canV l i O = true) (h : NoneBy Q l O n) (hD : D = dropV l i) :
    safeS O least D.length D = safeS O least l.length l ∧ D.length + 1 = l.length ∧ smpV D = true := by
  subst hQ hD
  have hcut : cutV l O least = i := cut_first (x := (i, a)) hx hc (fun k y hk hy => h k y hk hy)
  have hb := hc
  unfold canV at hb
  simp only [Bool.and_eq_true] at hb
  obtain ⟨-, -, b, rfl, -, -⟩ := dropOk_at hb.1
  have h1 := drop_one hb.1
  refine ⟨?_, h1, hb.2.1⟩
  rw [← h1, safe_step hcut]
set_option maxRecDepth 100000 in
theorem canCor_is (x : Cor) (A Ao : Option Addr) (c co : Nat) (l : List (Int × Int)) (O : List (List (Int × Int))) (B C : Nat) (z : Bool) (w : World) (k0 : w.cell? ⟨B, 0, none⟩ = some (.slice A l.length c)) (k1 : w.cell? ⟨C, 0, none⟩ = some (.slice Ao O.length co))
    (hs : SeesE 2 encPoint w w.heap.size A l) (ho : SeesLs 2 encPoint w w.heap.size Ao O) (hl : l.length ≤ 274877906944) (hlc : l.length ≤ c) (hc : (c : Int) ≤ 9223372036854775807) (hO : O.length ≤ 1099511627776) (hF : FewLs O) (hz : canV l x.1 O = z) :
    Calls Try.prog 97 #[PtV x.1 x.2, .pointer (some ⟨B, 0, none⟩), .pointer (some ⟨C, 0, none⟩)] w fun e w' => e = .returned (.bool z) ∧ Below w.heap.size w w' := by
  obtain ⟨i, a⟩ := x
  have HV := Lib.hid (Vars.of1 w #[.int .i64 i, .int .i64 a] 120)
  obtain ⟨q0, q1⟩ := HV.out.c20
  have k0' := (HV.out.1.cell (World.block_lt_of_cell? _ _ k0)).trans k0
  have k1' := (HV.out.1.cell (World.block_lt_of_cell? _ _ k1)).trans k1
  have HS := Lib.hid (hs.belowAll HV.out.1); have HO := Lib.hid (ho.belowAll HV.out.1); have HF := Lib.hid hF; have HZ := Lib.hid hz
  clear hs ho hF hz k0 k1
  go_enter Try.func97, Try.ntmps97
  go_wp2_with fail
  refine (canDrop_is A Ao c co l i O z _ HS.out HO.out hl hlc hc hO HF.out HZ.out).mono ?_
  rintro e w1 ⟨rfl, hb1⟩
  go_wp2
  go_ret
  exact ⟨rfl, (HV.out.next hb1).1⟩
set_option maxRecDepth 100000 in
theorem indexCor_is (A Ao A1 : Option Addr) (c co c1 : Nat) (l : List (Int × Int)) (O : List (List (Int × Int))) (Q : List Cor) (B C : Nat) (w : World) (k0 : w.cell? ⟨B, 0, none⟩ = some (.slice A l.length c)) (k1 : w.cell? ⟨C, 0, none⟩ = some (.slice Ao O.length co))
    (hs : SeesE 2 encPoint w w.heap.size A l) (ho : SeesLs 2 encPoint w w.heap.size Ao O) (hq : SeesE 2 enccorner w w.heap.size A1 Q) (hl : l.length ≤ 274877906944) (hlc : l.length ≤ c) (hc : (c : Int) ≤ 9223372036854775807) (hO : O.length ≤ 1099511627776) (hF : FewLs O) (hQ : Q.length ≤ 8) :
    Calls Try.prog 99 #[.slice A1 Q.length c1, .func (.func 97) #[] #[.pointer (some ⟨B, 0, none⟩), .pointer (some ⟨C, 0, none⟩)]] w fun e w' =>
      ((e = .returned (.int .i64 (-1)) ∧ Hid (NoneBy Q l O Q.length)) ∨ (∃ (n : Nat) (i a : Int), e = .returned (.int .i64 (n : Int)) ∧ n < Q.length ∧ Hid (Q[n]? = some (i, a)) ∧ Hid (canV l i O = true) ∧ Hid (NoneBy Q l O n))) ∧ Below w.heap.size w w' := by
  have eg : ∀ args w, (callFunc 97 args).run Try.prog w = .ok (.enter 97 args) w := enters_of Try.func97 (by kernel_rfl) rfl
  have HO := Lib.hid ho; have H0 := Lib.hid k0; have H1 := Lib.hid k1; have HS := Lib.hid hs; have HF := Lib.hid hF; have HQ := Lib.hid hq
  clear ho k0 k1 hs hF hq
  go_enter Try.func99, Try.ntmps99
  go_wp2
  go_loopg [5, 8] Q.length (fun g _ s8 wr => ∃ j : Nat, j + g = Q.length ∧ s8 = .int .i64 j ∧ Hid (NoneBy Q l O j) ∧ Hid (Below w.heap.size w wr))
  case atStart => exact ⟨0, by omega, rfl, Lib.hid (fun k y h => absurd h (Nat.not_lt_zero _)), Lib.hid (Below.refl _ _)⟩
  case round =>
    obtain ⟨j, hg, rfl, HN, HB⟩ := hrel
    by_cases hlt : j < Q.length
    · have hlt' : (j : Int) < (Q.length : Int) := by omega
      obtain ⟨b, off, ⟨i, a⟩, rfl, hbl, hx, -⟩ := (HQ.out.below HB.out).lt hlt
      obtain ⟨q0, q1⟩ := cellscorner (HQ.out.below HB.out) hx
      have HX := Lib.hid hx
      have G0 := Lib.hid ((HB.out.cell (World.block_lt_of_cell? _ _ H0.out)).trans H0.out)
      have G1 := Lib.hid ((HB.out.cell (World.block_lt_of_cell? _ _ H1.out)).trans H1.out)
      have HSr := Lib.hid (HS.out.belowAll HB.out)
      have HOr := Lib.hid (HO.out.belowAll HB.out)
      obtain ⟨v, hv⟩ : ∃ v, canV l i O = v := ⟨_, rfl⟩
      have HY := Lib.hid hv
      clear hx hv
      cases v
      all_goals
        go_wp2_with (go_at_fn 97; refine (canCor_is (i, a) _ _ c co l O B C _ _ G0.out G1.out HSr.out HOr.out hl hlc hc hO HF.out HY.out).mono ?_; rintro e9 w9 ⟨rfl, hb9⟩)
      · have HB9 := Lib.hid (HB.out.trans (hb9.mono HB.out.size))
        have HNx : Hid (NoneBy Q l O (j + 1)) := Lib.hid fun k y hk hy => by
          by_cases e : k < j
          · exact HN.out k y e hy
          · obtain rfl : k = j := by omega
            rw [HX.out] at hy
            rw [← Option.some.inj hy]
            exact HY.out
        go_roundg (Q.length - (j + 1))
        case measure => omega
        case rel => exact ⟨j + 1, by omega, by go_num, HNx, HB9⟩
      · go_ret
        exact ⟨.inr ⟨j, i, a, rfl, hlt, HX, HY, HN⟩, HB.out.trans (hb9.mono HB.out.size)⟩
    · obtain rfl : j = Q.length := by omega
      have hlt' : ¬ (Q.length : Int) < (Q.length : Int) := by omega
      go_wp2
      go_ret
      refine ⟨?_, HB.out⟩
      first | exact .inl ⟨rfl, HN⟩ | exact .inl rfl
set_option maxRecDepth 100000 in
set_option maxHeartbeats 8000000 in
theorem safeSimplify_any (A Ao : Option Addr) (c co : Nat) (l : List (Int × Int)) (O : List (List (Int × Int))) (least : Int) (w : World) (hs : SeesE 2 encPoint w w.heap.size A l) (ho : SeesLs 2 encPoint w w.heap.size Ao O) (hl : l.length ≤ 274877906944) (hO : O.length ≤ 1099511627776) (hF : FewLs O) :
    Calls Try.prog 41 #[.slice A l.length c, .slice Ao O.length co, .int .i64 least] w (GivesE 2 encPoint 25 (safeV l O least) w) := by
  have hmf : ∀ (fn : Fn) (first cap : Array Value) (w : World), (Instr.makeFunc fn first cap).run Try.prog w = .ok (.func fn first cap) w := fun _ _ _ _ => rfl
  have HV := Lib.hid (Vars.of1 w #[.slice Ao O.length co] 58)
  have HS := Lib.hid (hs.belowAll HV.out.1); have HOw0 := Lib.hid ho; have HF := Lib.hid hF
  clear hs ho hF
  obtain ⟨sm, hsm⟩ : ∃ s, smpV l = s := ⟨_, rfl⟩
  have HSm := Lib.hid hsm; clear hsm
  go_enter Try.func41, Try.ntmps41
  go_wp2_with fail
  refine (clone_any A c l _ HS.out (by omega)).mono ?_
  rintro e w1 ⟨A1, c1, L1, hL1, rfl, ho1, hb1⟩
  have HL1 := hL1
  have HV1 := Lib.hid (HV.out.next hb1)
  have hl1 : L1.length ≤ 1099511627776 := by rw [hL1.out]; omega
  have hz1 := HV1.out.more1
  have HOth : Hid (OneV w.heap.size (w1.alloc (.cells #[.slice A1 L1.length c1] 47)) w.heap.size #[.slice Ao O.length co]) := Lib.hid ((((OneV.new (m := w.heap.size) w (Nat.le_refl _) #[.slice Ao O.length co] 58).next hb1)).al _)
  have HKp : Hid (OneV w.heap.size (w1.alloc (.cells #[.slice A1 L1.length c1] 47)) w1.heap.size #[.slice A1 L1.length c1]) := Lib.hid (OneV.new (m := w.heap.size) w1 HV1.out.1.size #[.slice A1 L1.length c1] 47)
  have hb2 : Below w1.heap.size w1 (w1.alloc (.cells #[.slice A1 L1.length c1] 47)) := (Below.refl _ w1).alloc (Nat.le_refl _) _
  have HB2 : Hid (Below w.heap.size w (w1.alloc (.cells #[.slice A1 L1.length c1] 47))) := Lib.hid (HV1.out.next hb2).1
  have HOw1 : Hid (OwnE 2 encPoint (w1.alloc (.cells #[.slice A1 L1.length c1] 47)) w.heap.size 25 (.slice A1 L1.length c1) L1) := Lib.hid ((ho1.mono (by simp)).belowAll hb2)
  have HNe : Hid (∀ g, (Value.slice A1 L1.length c1).ownBlock = some g → g < w1.heap.size) := Lib.hid fun g hg => (ho1.lt g hg).2
  have HSk := Lib.hid (HOw1.out.sees elPoint)
  have k1 := HKp.out.cell 0 rfl
  clear hL1 ho1 hb1 hb2 HV HS HV1
  cases sm
  · have HN : Hid (L1 = safeV l O least) := Lib.hid (by rw [HL1.out, safeV_no HSm.out])
    have HSm1 : Hid (smpV L1 = false) := Lib.hid (by rw [HL1.out]; exact HSm.out)
    go_wp2_with fail
    refine (isSimple_is A1 c1 L1 _ HSk.out hl1 _ HSm1.out).mono ?_
    rintro e w2 ⟨rfl, hb2⟩
    have k2 := (HKp.out.next hb2).cell 0 rfl
    go_wp2
    go_ret
    exact ⟨A1, c1, L1, HN, rfl, HOw1.out.belowAll hb2, HB2.out.trans (hb2.mono HB2.out.size)⟩
  have HN : Hid (safeS O least L1.length L1 = safeV l O least) := Lib.hid (by rw [HL1.out]; unfold safeV; rw [if_pos HSm.out])
  have HSm1 : Hid (smpV L1 = true) := Lib.hid (by rw [HL1.out]; exact HSm.out)
  go_wp2_with fail
  refine (isSimple_is A1 c1 L1 _ HSk.out hl1 _ HSm1.out).mono ?_
  rintro e w2 ⟨rfl, hb2⟩
  have HOth2 := Lib.hid (HOth.out.next hb2)
  have HKp2 := Lib.hid (HKp.out.next hb2)
  have HB3 := Lib.hid (HB2.out.trans (hb2.mono HB2.out.size))
  have HOw2 := Lib.hid (HOw1.out.belowAll hb2)
  have hz2 : w1.heap.size + 1 ≤ w2.heap.size := by have := hb2.size; simp at this; exact this
  clear hb2 k1 HOth HKp HB2 HOw1 HSk
  go_wp2
  go_loopg [9, 10] L1.length (fun g _ _ wr => ∃ (A2 : Option Addr) (c2 : Nat) (L : List (Int × Int)), Hid (L.length = g) ∧ Hid (safeS O least L.length L = safeV l O least) ∧ Hid (smpV L = true) ∧ Hid (OneV w.heap.size wr w.heap.size #[.slice Ao O.length co]) ∧ Hid (OneV w.heap.size wr w1.heap.size #[.slice A2 L.length c2]) ∧ Hid (Below w.heap.size w wr) ∧ Hid (OwnE 2 encPoint wr w.heap.size 25 (.slice A2 L.length c2) L) ∧ Hid (∀ g, (Value.slice A2 L.length c2).ownBlock = some g → g ≠ w1.heap.size) ∧ w1.heap.size + 1 ≤ wr.heap.size)
  case atStart => exact ⟨A1, c1, L1, Lib.hid rfl, HN, HSm1, HOth2, HKp2, HB3, HOw2, Lib.hid fun g hg => Nat.ne_of_lt (HNe.out g hg), hz2⟩
  case round =>
    obtain ⟨A2, c2, L, HG, HR, HSmL, HOt, HK, HB, HOw, HNb, hzr⟩ := hrel
    have hln : isLn L = true := by have := HSmL.out; unfold smpV at this; rw [Bool.and_eq_true] at this; exact this.2
    have h2l := (isLn_yes hln).1; have h10 := (isLn_yes hln).2.1
    have hcap := capsLs HOw.out
    have hLc : L.length ≤ c2 := hcap.2.1
    have hc2 : (c2 : Int) ≤ 9223372036854775807 := hcap.2.2
    have HSk := Lib.hid (HOw.out.sees elPoint)
    have k1 := HK.out.cell 0 rfl
    clear hcap hln
    go_wp2_with fail
    refine (smallCorners_any A2 c2 L least _ HSk.out h2l h10).mono ?_
    rintro e w3 ⟨A3, c3, Q, hQ, hQ8, rfl, hsq, hb3⟩
    have HQ := hQ
    have HOt3 := Lib.hid (HOt.out.next hb3)
    have HK3 := Lib.hid (HK.out.next hb3)
    have HB3 := Lib.hid (HB.out.trans (hb3.mono HB.out.size))
    have HSk3 := Lib.hid (HSk.out.belowAll hb3)
    have HOw3 := Lib.hid (HOw.out.belowAll hb3)
    have HSq3 := Lib.hid hsq
    have hz3 : w1.heap.size + 1 ≤ w3.heap.size := Nat.le_trans hzr hb3.size
    have HOs3 := Lib.hid (HOw0.out.belowAll HB3.out)
    clear hQ hsq hb3 k1 HOt HK HB HSk HOw hzr
    go_wp2_with fail
    refine (indexCor_is A2 Ao A3 c2 co c3 L O Q w1.heap.size w.heap.size _ (HK3.out.cell 0 rfl) (HOt3.out.cell 0 rfl) HSk3.out HOs3.out HSq3.out (by omega) hLc hc2 hO HF.out hQ8).mono ?_
    rintro e w4 ⟨⟨rfl, hn⟩ | ⟨n, i, a, rfl, hnQ, hx, hc, hn⟩, hb4⟩
    · have HX := hn
      have HK4 := Lib.hid (HK3.out.next hb4)
      have k4 := HK4.out.cell 0 rfl
      go_wp2
      go_ret
      exact ⟨A2, c2, L, Lib.hid (by rw [← HR.out]; exact (none_cut HQ.out HX.out).symm), rfl, HOw3.out.belowAll hb4, HB3.out.trans (hb4.mono HB3.out.size)⟩
    · have HN1 := hn; have HX := hx; have HC := hc
      have HOt4 := Lib.hid (HOt3.out.next hb4)
      have HK4 := Lib.hid (HK3.out.next hb4)
      have HB4 := Lib.hid (HB3.out.trans (hb4.mono HB3.out.size))
      have HSk4 := Lib.hid (HSk3.out.belowAll hb4)
      have HSq4 := Lib.hid (HSq3.out.belowAll hb4)
      have hz4 : w1.heap.size + 1 ≤ w4.heap.size := Nat.le_trans hz3 hb4.size
      obtain ⟨b, off, rfl, hbl, -⟩ := HSq4.out n _ hx.out
      obtain ⟨q0, q1⟩ := cellscorner HSq4.out hx.out
      have k4 := HK4.out.cell 0 rfl
      have hn0 : ¬ (n : Int) < 0 := by omega
      have hn1 : (n : Int) < (Q.length : Int) := by omega
      have hw : IntKind.i64.wrap (n : Int) = (n : Int) := by rw [IntKind.wrap_i64]; omega
      clear hb4 hn hx hc HOt3 HK3 HB3 HSk3 HSq3 hz3 HOw3 HOs3
      go_wp2_with fail
      go_region_with (first
        | (go_at_call 48; refine (dropPoint_any A2 c2 L i _ (by first | exact HSk4.out | exact HSk4.out.drew) (by omega) hLc hc2).mono ?_; rintro e w5 ⟨A5, c5, D, k, hD, hk, rfl, ho5, hb5⟩; have HD := hD; have HO5 := Lib.hid ho5; have HBx : Hid (Below w4.heap.size w4 w5) := Lib.hid ((Below.refl _ w4).drew.trans hb5); have HK5 := Lib.hid (HK4.out.next HBx.out); have k5 := HK5.out.cell 0 rfl; have f5 := HK5.out.frozen 0)
        | fail)
      all_goals
        have HNC := Lib.hid (next_cut HQ.out HX.out HC.out HN1.out HD.out)
        have HB5 := Lib.hid (HB4.out.trans (HBx.out.mono HB4.out.size))
        have HOt5 := Lib.hid (HOt4.out.next HBx.out)
        have hz5 := HBx.out.size
        have hz6 : w4.drew.heap.size = w4.heap.size := rfl
        have hz7 : w.heap.size ≤ w4.heap.size := HB4.out.size
        clear q0 q1 k4 k5 f5 hD hk
        go_wp2
        go_roundg D.length
        case measure => have := HNC.out.2.1; have := HG.out; omega
        case rel => exact ⟨A5, c5, D, Lib.hid rfl, Lib.hid (HNC.out.1.trans HR.out), Lib.hid HNC.out.2.2, Lib.hid (HOt5.out.other (by omega) 0 _), Lib.hid (HK5.out.set 0 _), Lib.hid (HB5.out.setCell (p := ⟨w1.heap.size, 0, none⟩) (by show w.heap.size ≤ w1.heap.size; omega) _), Lib.hid ((HO5.out.setUnder (by rw [hz6]; omega) _).mono (by rw [hz6]; omega)), Lib.hid fun g hg => by (have := (HO5.out.lt g hg).1; rw [hz6] at this; omega), by rw [World.size_setCell]; omega⟩
end Go.Proofs.Ytbnjaaegbmhopaa
end
section
/- Lines that never cross: the contracts of package impl. -/
end
section
/- Lines: EqualLines and TurnLine, of package impl and of the model. -/
namespace Go.Proofs.Ytbnjaaegbmhopaa
open Go.ChangeShapes Go.WideShapes Go.ChangeAt Go.RowKit
set_option linter.unusedVariables false

/-- Equal so far. -/
theorem eqPre_step {α : Type} {l m : List α} {j : Nat} (h : l.take j = m.take j) (hx : l[j]? = m[j]?) : l.take (j + 1) = m.take (j + 1) := by
  rw [List.take_add_one, List.take_add_one, h, hx]
theorem ne_of_get {α : Type} {l m : List α} {j : Nat} (h : l[j]? ≠ m[j]?) : l ≠ m := fun e => h (by rw [e])
theorem PtV_ne {a b c d : Int} (h : ¬ (a = c ∧ b = d)) : ((a, b) : Int × Int) ≠ (c, d) := fun e => h ⟨congrArg Prod.fst e, congrArg Prod.snd e⟩
def StRel (l : List (Int × Int)) (w : World) (v i : Value) (wr : World) : Prop :=
  ∃ (A : Option Addr) (c : Nat) (L : List (Int × Int)) (r : Nat), r ≤ l.length ∧ v = .slice A L.length c ∧ i = .int .i64 ((r : Int) - 1) ∧ Hid (L = l.reverse.take (l.length - r)) ∧ L.length = l.length - r ∧ OwnE 2 encPoint wr w.heap.size 25 (.slice A L.length c) L ∧ Below w.heap.size w wr
theorem st_step {l L L2 : List (Int × Int)} {m : Nat} {x : Int × Int} (hm : m + 1 ≤ l.length) (hL : L = l.reverse.take (l.length - (m + 1))) (h : L2 = L ++ [x]) (hx : l[m]? = some x) : L2 = l.reverse.take (l.length - m) := by
  have e : l.length - m = (l.length - (m + 1)) + 1 := by omega
  rw [h, hL, e, List.take_add_one, List.getElem?_reverse (by omega)]
  have e2 : l.length - 1 - (l.length - (m + 1)) = m := by omega
  rw [e2, hx]; rfl
set_option maxRecDepth 100000 in
theorem slicesEqual_is (A A' : Option Addr) (c c' : Nat) (l l' : List (Int × Int)) (w : World) (hs : SeesE 2 encPoint w w.heap.size A l) (hs' : SeesE 2 encPoint w w.heap.size A' l') (hl : l.length ≤ 1099511627776) (z : Bool) (hz : decide (l = l') = z) :
    Calls Try.prog 92 #[.slice A l.length c, .slice A' l'.length c'] w fun e w' => e = .returned (.bool z) ∧ Below w.heap.size w w' := by
  have HS := Lib.hid hs; clear hs
  have HS' := Lib.hid hs'; clear hs'
  go_enter Try.func92, Try.ntmps92
  by_cases hn : l.length = l'.length
  · have hq : ((l.length : Int) = (l'.length : Int)) := by omega
    go_wp2
    go_loopw [13] (fun i wr => ∃ j : Nat, j ≤ l.length ∧ i = .int .i64 j ∧ Hid (l.take j = l'.take j) ∧ Below w.heap.size w wr) (fun i _ => l.length - (intOf i).toNat)
    case atStart => exact ⟨0, Nat.zero_le _, rfl, Lib.hid rfl, Below.refl _ _⟩
    case round =>
      obtain ⟨j, hj, rfl, hp, hb⟩ := hrel
      by_cases hlt : j < l.length
      · obtain ⟨b, off, ⟨t0, t1⟩, rfl, hbl, hx, -⟩ := (HS.out.below hb).lt hlt
        obtain ⟨b', off', ⟨u0, u1⟩, rfl, hbl', hx', -⟩ := (HS'.out.below hb).lt (show j < l'.length by omega)
        obtain ⟨k0, k1⟩ := cellsPoint (HS.out.below hb) hx
        obtain ⟨k2, k3⟩ := cellsPoint (HS'.out.below hb) hx'
        have HX := Lib.hid hx; have HX' := Lib.hid hx'
        have HB := Lib.hid hb
        clear hx hx' hb
        go_wp2
        by_cases h0 : t0 = u0
        · by_cases h1 : t1 = u1
          · subst h0 h1
            go_region_held3 (fun w' => w'.cell? ⟨b, off + j * 2, none⟩ = some (.int .i64 t0) ∧ w'.cell? ⟨b, off + j * 2 + 1, none⟩ = some (.int .i64 t1) ∧ w'.cell? ⟨b', off' + j * 2, none⟩ = some (.int .i64 t0) ∧ w'.cell? ⟨b', off' + j * 2 + 1, none⟩ = some (.int .i64 t1)) (first | exact ⟨k0, k1, k2, k3⟩) (fail)
            all_goals
              go_wp2
              go_roundw
              case rel => exact ⟨j + 1, by omega, by go_num, Lib.hid (eqPre_step hp.out (HX.out.trans HX'.out.symm)), HB.out.drew⟩
              case measure => simp [intOf]; omega
          · have hz' : z = false := by rw [← hz, decide_eq_false_iff_not]; exact ne_of_get (j := j) (fun e => PtV_ne (fun g => h1 g.2) (Option.some.inj ((HX.out.symm.trans e).trans HX'.out)))
            subst hz' h0
            go_region_held3 (fun w' => w'.cell? ⟨b, off + j * 2, none⟩ = some (.int .i64 t0) ∧ w'.cell? ⟨b, off + j * 2 + 1, none⟩ = some (.int .i64 t1) ∧ w'.cell? ⟨b', off' + j * 2, none⟩ = some (.int .i64 t0) ∧ w'.cell? ⟨b', off' + j * 2 + 1, none⟩ = some (.int .i64 u1)) (first | exact ⟨k0, k1, k2, k3⟩) (fail)
            all_goals
              go_wp2
              go_ret
              exact ⟨rfl, HB.out.drew⟩
        · have hz' : z = false := by rw [← hz, decide_eq_false_iff_not]; exact ne_of_get (j := j) (fun e => PtV_ne (fun g => h0 g.1) (Option.some.inj ((HX.out.symm.trans e).trans HX'.out)))
          subst hz'
          go_region_held3 (fun w' => w'.cell? ⟨b, off + j * 2, none⟩ = some (.int .i64 t0) ∧ w'.cell? ⟨b, off + j * 2 + 1, none⟩ = some (.int .i64 t1) ∧ w'.cell? ⟨b', off' + j * 2, none⟩ = some (.int .i64 u0) ∧ w'.cell? ⟨b', off' + j * 2 + 1, none⟩ = some (.int .i64 u1)) (first | exact ⟨k0, k1, k2, k3⟩) (fail)
          all_goals
            go_wp2
            go_ret
            exact ⟨rfl, HB.out.drew⟩
      · obtain rfl : j = l.length := by omega
        have hz' : z = true := by rw [← hz, decide_eq_true_eq]; have := hp.out; rwa [List.take_length, hn, List.take_length] at this
        subst hz'
        go_wp2
        go_ret
        exact ⟨rfl, hb⟩
  · have hq : ¬ ((l.length : Int) = (l'.length : Int)) := by omega
    have hz' : z = false := by rw [← hz, decide_eq_false_iff_not]; intro e; exact hn (by rw [e])
    subst hz'
    go_wp2
    go_ret
    exact ⟨rfl, Below.refl _ _⟩
theorem equalLines_is (A A' : Option Addr) (c c' : Nat) (l l' : List (Int × Int)) (w : World) (hs : SeesE 2 encPoint w w.heap.size A l) (hs' : SeesE 2 encPoint w w.heap.size A' l') (hl : l.length ≤ 1099511627776) (z : Bool) (hz : decide (l = l') = z) :
    Calls Try.prog 36 #[.slice A l.length c, .slice A' l'.length c'] w fun e w' => e = .returned (.bool z) ∧ Below w.heap.size w w' := by
  go_enter Try.func36, Try.ntmps36
  go_wp2_with fail
  refine (slicesEqual_is A A' c c' l l' w hs hs' hl z hz).mono ?_
  rintro e w' ⟨rfl, hb⟩
  go_wp2
  go_ret
  exact ⟨rfl, hb⟩
end Go.Proofs.Ytbnjaaegbmhopaa
end
section
/- Simpler lines: IsPartOf of the model. -/
namespace Go.Proofs.Ytbnjaaegbmhopaa
open Go.ChangeShapes Go.WideShapes Go.ChangeAt Go.RowKit
set_option linter.unusedVariables false

theorem eat_yes {a b : List (Int × Int)} {k i : Nat} {q : Int × Int} (h : b[k]? = some q) (hi : i = eatN a 0 (b.take k)) (ha : a[i]? = some q) : i + 1 = eatN a 0 (b.take (k + 1)) := by
  subst hi; rw [eat_step h, if_pos ha]
theorem eat_no {a b : List (Int × Int)} {k i : Nat} {q : Int × Int} (h : b[k]? = some q) (hi : i = eatN a 0 (b.take k)) (ha : a[i]? ≠ some q) : i = eatN a 0 (b.take (k + 1)) := by
  subst hi; rw [eat_step h, if_neg ha]
def isPartRT : List (Nat × Nat × Nat) := [(0, 14, 32), (0, 15, 1), (2, 16, 16384), (5, 17, 40960), (8, 18, 65536), (16, 19, 131073), (16, 20, 131104), (112, 21, 917504), (144, 22, 1179648), (16, 23, 131074), (16, 24, 131136), (1552, 25, 12713984), (2064, 26, 16908288), (4368, 27, 35782656), (8208, 28, 67239936)]
def isPartRS : List (Nat × Bool) := [(0, true), (1, true), (2, true), (3, true), (4, true), (5, true), (6, true), (7, true), (8, true), (9, true), (10, true), (11, true), (12, true), (13, true), (14, true)]
end Go.Proofs.Ytbnjaaegbmhopaa
end
section
/- Simpler lines: IsPartOf of package impl. -/
namespace Go.Proofs.Ytbnjaaegbmhopaa
open Go.ChangeShapes Go.WideShapes Go.ChangeAt Go.RowKit
set_option linter.unusedVariables false
theorem ptEql (a b c d : Int) (w : World) : (binOp .eql 25 (PtV a b) (PtV c d)).run Try.prog w = .ok (.bool (decide (a = c) && decide (b = d))) w := by
  have hu := Try.underlying25
  have hi := Try.underlying3
  rw [run_eql_struct, run_equalIn_agg _ _ _ _ _ (by simp [Program.fieldsOf, hu]) (by kernel_rfl)]
  simp [Program.fieldsOf, hu, go_sem, hi]
  by_cases h : a = c <;> by_cases h' : b = d <;> simp [h, h']
theorem ptNeq (a b c d : Int) (w : World) : (binOp .neq 25 (PtV a b) (PtV c d)).run Try.prog w = .ok (.bool (!(decide (a = c) && decide (b = d)))) w := by
  have hu := Try.underlying25
  have hi := Try.underlying3
  rw [run_neq_struct, run_equalIn_agg _ _ _ _ _ (by simp [Program.fieldsOf, hu]) (by kernel_rfl)]
  simp [Program.fieldsOf, hu, go_sem, hi]
  by_cases h : a = c <;> by_cases h' : b = d <;> simp [h, h']
def partIT : List (Nat × Nat × Nat) := [(0, 15, 32), (0, 16, 1), (2, 17, 32768), (5, 18, 81920), (8, 19, 131072), (16, 20, 262145), (16, 21, 262176), (112, 22, 1835008), (144, 23, 2359296), (16, 24, 262272), (784, 25, 12845056), (1040, 26, 17039360)]
def partIS : List (Nat × Bool) := [(0, true), (1, true), (2, true), (3, true), (4, true), (5, true), (6, true), (7, true), (8, true), (9, true), (10, true), (11, true)]
set_option maxRecDepth 100000 in
set_option maxHeartbeats 4000000 in
theorem isPartOf_is (A A' : Option Addr) (c c' : Nat) (l l' : List (Int × Int)) (w : World) (hs : SeesE 2 encPoint w w.heap.size A l) (hs' : SeesE 2 encPoint w w.heap.size A' l') (hl : l.length ≤ 1099511627776) (hl' : l'.length ≤ 1099511627776) (z : Bool) (hz : partV l l' = z) :
    Calls Try.prog 42 #[.slice A l.length c, .slice A' l'.length c'] w fun e w' => e = .returned (.bool z) ∧ Below w.heap.size w w' := by
  have HS := Lib.hid hs; clear hs
  have HS' := Lib.hid hs'; clear hs'
  have HZ := Lib.hid hz; clear hz
  go_enter Try.func42, Try.ntmps42
  go_wp2
  go_loopg [5, 7, 10] l'.length (fun g s _ t wr => ∃ i k : Nat, i ≤ l.length ∧ k + g = l'.length ∧ s = .int .i64 (i : Int) ∧ t = .int .i64 (k : Int) ∧ Hid (i = eatN l 0 (l'.take k)) ∧ Hid (Below w.heap.size w wr))
  case atStart => exact ⟨0, 0, Nat.zero_le _, by omega, rfl, rfl, Lib.hid rfl, Lib.hid (Below.refl _ _)⟩
  case round =>
    obtain ⟨i, k, hi, hg, rfl, rfl, HE, HB⟩ := hrel
    by_cases hlt : k < l'.length
    · have hlt' : (k : Int) < (l'.length : Int) := by omega
      obtain ⟨b', off', ⟨u0, u1⟩, rfl, hbl', hx', -⟩ := (HS'.out.below HB.out).lt hlt
      obtain ⟨k2, k3⟩ := cellsPoint (HS'.out.below HB.out) hx'
      have HX' := Lib.hid hx'
      have HBa : Hid (Below w.heap.size w (wr.alloc (.cells #[.int .i64 u0, .int .i64 u1] 25)).drew) := Lib.hid (HB.out.alloc HB.out.size _).drew
      clear hx'
      have K2 : (wr.alloc (.cells #[.int .i64 u0, .int .i64 u1] 25)).drew.cell? ⟨wr.heap.size, 0, none⟩ = some (.int .i64 u0) := (OneV.new (m := 0) wr (Nat.zero_le _) #[.int .i64 u0, .int .i64 u1] 25).drew.cell 0 rfl
      have K3 : (wr.alloc (.cells #[.int .i64 u0, .int .i64 u1] 25)).drew.cell? ⟨wr.heap.size, 1, none⟩ = some (.int .i64 u1) := (OneV.new (m := 0) wr (Nat.zero_le _) #[.int .i64 u0, .int .i64 u1] 25).drew.cell 1 rfl
      by_cases hil : i < l.length
      · have hil' : (i : Int) < (l.length : Int) := by omega
        obtain ⟨b, off, ⟨t0, t1⟩, rfl, hbl, hx, -⟩ := (HS.out.below HB.out).lt hil
        obtain ⟨k0, k1⟩ := cellsPoint (HS.out.below HB.out) hx
        have HX := Lib.hid hx
        have hbs : b < wr.heap.size := World.block_lt_of_cell? _ _ k0
        have K0 : (wr.alloc (.cells #[.int .i64 u0, .int .i64 u1] 25)).drew.cell? ⟨b, off + i * 2, none⟩ = some (.int .i64 t0) := (((Below.refl wr.heap.size wr).alloc (Nat.le_refl _) _).drew.cell (p := ⟨b, off + i * 2, none⟩) hbs).trans k0
        have K1 : (wr.alloc (.cells #[.int .i64 u0, .int .i64 u1] 25)).drew.cell? ⟨b, off + i * 2 + 1, none⟩ = some (.int .i64 t1) := (((Below.refl wr.heap.size wr).alloc (Nat.le_refl _) _).drew.cell (p := ⟨b, off + i * 2 + 1, none⟩) hbs).trans k1
        have hpe := ptEql t0 t1 u0 u1
        clear hx
        go_upto_region 5 with fail
        by_cases h0 : t0 = u0 ∧ t1 = u1
        · have hq : (decide (t0 = u0) && decide (t1 = u1)) = true := by simp [h0]
          rw [hq] at hpe
          replace HX : Hid (l[i]? = some (u0, u1)) := Lib.hid (by rw [HX.out, h0.1, h0.2])
          clear hq
          refine wp_region_held_drew (S := (fun w' => (w'.cell? ⟨b, off + i * 2, none⟩ = some (.int .i64 t0) ∧ w'.cell? ⟨b, off + i * 2 + 1, none⟩ = some (.int .i64 t1)) ∧ w'.cell? ⟨wr.heap.size, 0, none⟩ = some (.int .i64 u0) ∧ w'.cell? ⟨wr.heap.size, 1, none⟩ = some (.int .i64 u1))) (by kernel_rfl) ⟨⟨K0, K1⟩, K2, K3⟩ (fun hHeld => ?_)
          refine to_lin (T := partIT) (n := 12) partIS ⟨by kernel_rfl, by kernel_rfl, by kernel_rfl⟩ (by kernel_rfl) (fun hTag => ?_)
          iterate 12 (refine lin_on (v := ?_) rfl (fun _ _ _ h => h) (by rfl) ?_ (by assumption) ?_; rotate_left; (· (intro wq hSw; go_simp; try with_reducible rfl)); try simp only [Act.put, List.setIfInBounds_toArray, List.set_cons_zero, List.set_cons_succ])
          refine lin_done ?_
          go_wp2
          go_roundg (l'.length - (k + 1))
          case measure => omega
          case rel => exact ⟨i + 1, k + 1, by omega, by omega, by go_num, by go_num, Lib.hid (eat_yes HX'.out HE.out HX.out), HBa⟩
        · have hq : (decide (t0 = u0) && decide (t1 = u1)) = false := by simpa using h0
          rw [hq] at hpe
          have HN : Hid (l[i]? ≠ some (u0, u1)) := Lib.hid (by rw [HX.out]; intro e; exact PtV_ne h0 (Option.some.inj e))
          clear hq
          refine wp_region_held_drew (S := (fun w' => (w'.cell? ⟨b, off + i * 2, none⟩ = some (.int .i64 t0) ∧ w'.cell? ⟨b, off + i * 2 + 1, none⟩ = some (.int .i64 t1)) ∧ w'.cell? ⟨wr.heap.size, 0, none⟩ = some (.int .i64 u0) ∧ w'.cell? ⟨wr.heap.size, 1, none⟩ = some (.int .i64 u1))) (by kernel_rfl) ⟨⟨K0, K1⟩, K2, K3⟩ (fun hHeld => ?_)
          refine to_lin (T := partIT) (n := 12) partIS ⟨by kernel_rfl, by kernel_rfl, by kernel_rfl⟩ (by kernel_rfl) (fun hTag => ?_)
          iterate 12 (refine lin_on (v := ?_) rfl (fun _ _ _ h => h) (by rfl) ?_ (by assumption) ?_; rotate_left; (· (intro wq hSw; go_simp; try with_reducible rfl)); try simp only [Act.put, List.setIfInBounds_toArray, List.set_cons_zero, List.set_cons_succ])
          refine lin_done ?_
          go_wp2
          go_roundg (l'.length - (k + 1))
          case measure => omega
          case rel => exact ⟨i, k + 1, by omega, by omega, rfl, by go_num, Lib.hid (eat_no HX'.out HE.out HN.out), HBa⟩
      · have hil' : ¬ (i : Int) < (l.length : Int) := by omega
        have HN : Hid (l[i]? ≠ some (u0, u1)) := Lib.hid (by rw [List.getElem?_eq_none (by omega)]; simp)
        go_upto_region 5 with fail
        refine wp_region_held_drew (S := (fun w' => True)) (by kernel_rfl) trivial (fun hHeld => ?_)
        refine to_lin (T := partIT) (n := 12) partIS ⟨by kernel_rfl, by kernel_rfl, by kernel_rfl⟩ (by kernel_rfl) (fun hTag => ?_)
        iterate 5 (refine lin_on (v := ?_) rfl (fun _ _ _ h => h) (by rfl) ?_ (by assumption) ?_; rotate_left; (· (intro wq hSw; go_simp; try with_reducible rfl)); try simp only [Act.put, List.setIfInBounds_toArray, List.set_cons_zero, List.set_cons_succ])
        iterate 6 (refine lin_off rfl (fun _ _ _ h => h) (by rfl) (by assumption) ?_; try simp only [Act.put, List.setIfInBounds_toArray, List.set_cons_zero, List.set_cons_succ])
        (refine lin_on (v := ?_) rfl (fun _ _ _ h => h) (by rfl) ?_ (by assumption) ?_; rotate_left; (· (intro wq hSw; go_simp; try with_reducible rfl)); try simp only [Act.put, List.setIfInBounds_toArray, List.set_cons_zero, List.set_cons_succ])
        refine lin_done ?_
        go_wp2
        go_roundg (l'.length - (k + 1))
        case measure => omega
        case rel => exact ⟨i, k + 1, by omega, by omega, rfl, by go_num, Lib.hid (eat_no HX'.out HE.out HN.out), HBa⟩
    · obtain rfl : k = l'.length := by omega
      have hlt' : ¬ (l'.length : Int) < (l'.length : Int) := by omega
      have HV : Hid (((i : Int) == (l.length : Int)) = z) := Lib.hid (by
        have e : partV l l' = decide (i = l.length) := by unfold partV; rw [HE.out, List.take_length]
        rw [← HZ.out, e, Bool.eq_iff_iff]; simp; omega)
      go_wp2
      go_ret
      exact ⟨by rw [← HV.out]; rfl, HB.out⟩
end Go.Proofs.Ytbnjaaegbmhopaa
end
section
/- The ends of two lines. -/
namespace Go.Proofs.Ytbnjaaegbmhopaa
open Go.ChangeShapes Go.WideShapes Go.ChangeAt Go.RowKit
set_option linter.unusedVariables false

/-- Do both begin and end at the same points? -/
def endsV (l k : List (Int × Int)) : Bool := decide (ptA l 0 = ptA k 0) && decide (ptA l (l.length - 1) = ptA k (k.length - 1))
theorem faith_ends (l k : List (Int × Int)) (n : Int) : faithV l k n = (isLn l && (isLn k && (endsV l k && l.all fun p => nearAny (sgV k) p n))) := by
  unfold faithV endsV; rw [Bool.and_assoc]
theorem pair_dec (a b c d : Int) : decide (((a, b) : Int × Int) = (c, d)) = (decide (a = c) && decide (b = d)) := by rw [Bool.eq_iff_iff]; simp
/-- The end points' cells. -/
theorem endsC {l : List (Int × Int)} {A : Option Addr} {B : Nat} {w : World} (hs : SeesE 2 encPoint w B A l) (hl : 0 < l.length) : ∃ b off p0 p1 r0 r1, A = some ⟨b, off, none⟩ ∧ b < B ∧ ptA l 0 = (p0, p1) ∧ ptA l (l.length - 1) = (r0, r1) ∧
    w.cell? ⟨b, off, none⟩ = some (.int .i64 p0) ∧ w.cell? ⟨b, off + 1, none⟩ = some (.int .i64 p1) ∧ w.cell? ⟨b, off + (l.length - 1) * 2, none⟩ = some (.int .i64 r0) ∧ w.cell? ⟨b, off + (l.length - 1) * 2 + 1, none⟩ = some (.int .i64 r1) := by
  obtain ⟨⟨p0, p1⟩, hp⟩ : ∃ p, l[0]? = some p := ⟨_, List.getElem?_eq_getElem (by omega)⟩
  obtain ⟨⟨r0, r1⟩, hr⟩ : ∃ p, l[l.length - 1]? = some p := ⟨_, List.getElem?_eq_getElem (by omega)⟩
  obtain ⟨b, off, rfl, hb, -⟩ := hs 0 _ hp
  obtain ⟨k0, k1⟩ := cellsPoint hs hp
  obtain ⟨k2, k3⟩ := cellsPoint hs hr
  exact ⟨b, off, p0, p1, r0, r1, rfl, hb, ptA_get hp, ptA_get hr, by simpa using k0, by simpa using k1, k2, k3⟩
end Go.Proofs.Ytbnjaaegbmhopaa
end
section
/- noLess of the laws. -/
namespace Go.Proofs.Ytbnjaaegbmhopaa
open Go.RowKit
set_option linter.unusedVariables false

set_option maxRecDepth 100000 in
theorem noLess_at (A A' : Option Addr) (c c' : Nat) (M M2 : List Int) (w : World) (hs : Sees w w.heap.size .i64 A M) (hs' : Sees w w.heap.size .i64 A' M2) (hn : M2.length = M.length) (hl : M.length ≤ 1099511627776) (h : ∀ (j : Nat) (x y : Int), M[j]? = some x → M2[j]? = some y → y ≤ x) :
    Calls Try.prog 43 #[.slice A M.length c, .slice A' M.length c'] w fun e w' => e = .returned (.bool true) ∧ Below w.heap.size w w' := by
  have HS := Lib.hid hs; have HS' := Lib.hid hs'; have HN := Lib.hid hn; have HH := Lib.hid h
  clear hs hs' hn h
  go_enter Try.func43, Try.ntmps43
  go_wp2
  go_loopw [5] (fun iv wr => ∃ j : Nat, j ≤ M.length ∧ iv = .int .i64 j ∧ Hid (Below w.heap.size w wr)) (fun iv _ => M.length - (intOf iv).toNat)
  case atStart => exact ⟨0, Nat.zero_le _, rfl, Lib.hid (Below.refl _ _)⟩
  case round =>
    obtain ⟨j, hj, rfl, HB⟩ := hrel
    by_cases hlt : j < M.length
    · have hji : (j : Int) < (M.length : Int) := by omega
      obtain ⟨x, hx⟩ : ∃ x, M[j]? = some x := ⟨_, List.getElem?_eq_getElem hlt⟩
      obtain ⟨y, hy⟩ : ∃ y, M2[j]? = some y := ⟨_, List.getElem?_eq_getElem (by rw [HN.out]; exact hlt)⟩
      have hle := HH.out j x y hx hy
      have hnl : ¬ x < y := by omega
      obtain ⟨b, off, rfl, hb, k0⟩ := HS.out j x hx
      obtain ⟨b', off', rfl, hb', k1⟩ := HS'.out j y hy
      have q0 : wr.cell? ⟨b, off + j, none⟩ = some (.int .i64 x) := (HB.out.cell (p := ⟨b, off + j, none⟩) hb).trans k0
      have q1 : wr.cell? ⟨b', off' + j, none⟩ = some (.int .i64 y) := (HB.out.cell (p := ⟨b', off' + j, none⟩) hb').trans k1
      have HBd := Lib.hid HB.out.drew
      clear k0 k1 hx hy
      go_upto_region 4 with fail
      go_region_held3 (fun W => W.cell? ⟨b, off + j, none⟩ = some (.int .i64 x) ∧ W.cell? ⟨b', off' + j, none⟩ = some (.int .i64 y)) (first | exact ⟨q0, q1⟩) (fail)
      all_goals
        go_wp2
        go_roundw
        case rel => exact ⟨j + 1, by omega, by go_num, HBd⟩
        case measure => simp [intOf]; omega
    · obtain rfl : j = M.length := by omega
      have hji : ¬ (M.length : Int) < (M.length : Int) := by omega
      go_wp2
      go_ret
      exact ⟨rfl, HB.out⟩
theorem noLess_is (A A' : Option Addr) (c c' : Nat) (M M2 : List Int) (n : Nat) (w : World) (hs : Sees w w.heap.size .i64 A M) (hs' : Sees w w.heap.size .i64 A' M2) (h1 : M.length = n) (h2 : M2.length = n) (hl : n ≤ 1099511627776) (h : ∀ (j : Nat) (x y : Int), M[j]? = some x → M2[j]? = some y → y ≤ x) :
    Calls Try.prog 43 #[.slice A n c, .slice A' n c'] w fun e w' => e = .returned (.bool true) ∧ Below w.heap.size w w' := by
  subst h1
  exact noLess_at A A' c c' M M2 w hs hs' h2 hl h
end Go.Proofs.Ytbnjaaegbmhopaa
end
section
/- FnSafe: a line is made simpler without a new meeting: its walk. -/
namespace Go.Proofs.Ytbnjaaegbmhopaa
open Go.ChangeShapes Go.WideShapes Go.ChangeAt Go.RowKit
set_option linter.unusedVariables false

def safeLT : List (Nat × Nat × Nat) := [(0, 41, 64), (1, 42, 1099511627776), (2, 43, 2199023255552), (6, 44, 4398046511104), (8, 45, 8796093022272), (24, 46, 26388279066624), (40, 47, 43980465111040), (8, 48, 8796093022216), (136, 49, 149533581377536), (264, 50, 290271069732864), (584, 51, 642114790621184), (1032, 52, 1134695999864832), (2056, 53, 2251799813685248), (4096, 54, 4503599627370560), (4096, 55, 4503599627370560), (20480, 56, 22517998136852480), (36864, 57, 40532396646334464), (77824, 58, 85568392920039424), (135168, 59, 148618787703226368), (4096, 60, 4503599627370504), (4096, 61, 4503599627370504), (1052672, 62, 1157425104234217472), (2101248, 63, 2310346608841064448), (4722688, 64, 5192650370358181888), (8392704, 65, 9227875636482146304), (17043456, 66, 18739478049488633856), (33558528, 67, 36897991747046473728)]
def safeLS : List (Nat × Bool) := [(0, true), (1, false), (2, true), (3, true), (4, true), (5, true), (6, true), (7, true), (8, true), (9, true), (10, true), (11, true), (12, true), (13, true), (14, true), (15, true), (16, true), (17, true), (18, true), (19, true), (20, true), (21, true), (22, true), (23, true), (24, true), (25, true), (26, true)]
set_option maxRecDepth 100000 in
set_option maxHeartbeats 3000000 in
theorem law_FnSafe (A : Option Addr) (len cap : Nat) (w : World) (hc : Code w w.heap.size A len) :
    Calls Try.prog 6 #[.slice A len cap] w fun e w' => e = .returned (.bool true) ∧ Below w.heap.size w w' := by
  have hlen := hc.1
  by_cases hbig : 1048576 < len
  · go_enter Try.func6, Try.ntmps6
    go_wp2_with fail
    refine (big_yes A len cap _ hbig).mono ?_
    rintro e w0 ⟨rfl, rfl⟩
    go_wp2
    go_ret
    exact ⟨rfl, Below.refl _ _⟩
  · go_enter Try.func6, Try.ntmps6
    have HC := Lib.hid hc; clear hc
    go_wp2_with fail
    refine (big_no A len cap _ (by omega)).mono ?_
    rintro e w0 ⟨rfl, rfl⟩
    go_wp2_with fail
    refine (drawSafeSimplify_any A len cap _ _ HC.out).mono ?_
    rintro e w1 ⟨Al, cl, l, Ao, co, O, least, rfl, hl1, ⟨hl11, hlc, hlcc⟩, hO3, HF, hs, ho, hb1⟩
    have HS := Lib.hid hs; have HO := Lib.hid ho; have HB := Lib.hid hb1
    clear hs ho hb1
    go_wp2_with fail
    refine (safeSimplify_any Al Ao cl co l O least _ HS.out HO.out (by omega) (by omega) HF.out).mono ?_
    rintro e w2 ⟨Ak, ck, Kk, hK, rfl, hok, hb2⟩
    have HK := hK
    have HLk := Lib.hid (safeV_like l O least)
    have hKl : Kk.length ≤ 11 := by have := safeV_len l O least; rw [← hK.out] at this; omega
    have hcap := capsLs hok
    have hKc := hcap.2.1; have hKcc := hcap.2.2
    have HSk := Lib.hid (hok.sees elPoint)
    replace HS := Lib.hid (HS.out.belowAll hb2); replace HO := Lib.hid (HO.out.belowAll hb2); replace HB := Lib.hid (HB.out.trans (hb2.mono HB.out.size))
    clear hok hb2 hcap hK
    go_wp2_with fail
    refine (isPartOf_is Ak Al ck cl Kk l _ HSk.out HS.out (by omega) (by omega) true (part_sub (by rw [HK.out]; exact HLk.out.1))).mono ?_
    rintro e w3 ⟨rfl, hb3⟩
    replace HS := Lib.hid (HS.out.belowAll hb3); replace HO := Lib.hid (HO.out.belowAll hb3); replace HSk := Lib.hid (HSk.out.belowAll hb3); replace HB := Lib.hid (HB.out.trans (hb3.mono HB.out.size))
    clear hb3
    go_wp2_with fail
    refine (meetsAll_any Al Ao cl co l O _ HS.out HO.out (by omega) (by omega) HF.out).mono ?_
    rintro e w4 ⟨A3, c3, M, hM, rfl, ho3, hb4⟩
    have HM := Lib.hid ho3.sees
    have HMe := hM
    replace HS := Lib.hid (HS.out.belowAll hb4); replace HO := Lib.hid (HO.out.belowAll hb4); replace HSk := Lib.hid (HSk.out.belowAll hb4); replace HB := Lib.hid (HB.out.trans (hb4.mono HB.out.size))
    clear ho3 hb4 hM
    go_wp2_with fail
    refine (meetsAll_any Ak Ao ck co Kk O _ HSk.out HO.out (by omega) (by omega) HF.out).mono ?_
    rintro e w5 ⟨A4, c4, M2, hM2, rfl, ho4, hb5⟩
    have HM2 := Lib.hid ho4.sees
    have HMe2 := hM2
    replace HM := Lib.hid ((HM.out.below hb5).mono hb5.size)
    replace HS := Lib.hid (HS.out.belowAll hb5); replace HO := Lib.hid (HO.out.belowAll hb5); replace HSk := Lib.hid (HSk.out.belowAll hb5); replace HB := Lib.hid (HB.out.trans (hb5.mono HB.out.size))
    clear ho4 hb5 hM2
    have hMl : M.length = O.length := by rw [HMe.out, mtsV_len]
    have hM2l : M2.length = O.length := by rw [HMe2.out, mtsV_len]
    have HLe : Hid (∀ (j : Nat) (x y : Int), M[j]? = some x → M2[j]? = some y → y ≤ x) := Lib.hid (by
      intro j x y hx hy
      rw [HMe.out] at hx
      rw [HMe2.out] at hy
      unfold mtsV at hx hy
      rw [List.getElem?_map, Option.map_eq_some_iff] at hx hy
      obtain ⟨o1, h1, rfl⟩ := hx
      obtain ⟨o2, h2, rfl⟩ := hy
      obtain rfl : o1 = o2 := by rw [h1] at h2; exact Option.some.inj h2
      rw [HK.out]
      exact HLk.out.2.2.2.2 o1 (List.mem_of_getElem? h1))
    have hMb : O.length ≤ 1099511627776 := by omega
    rw [hMl, hM2l]
    go_wp2_with fail
    with_reducible refine (noLess_is A3 A4 c3 c4 M M2 O.length _ HM.out HM2.out hMl hM2l hMb HLe.out).mono ?_
    rintro e w6 ⟨rfl, hb6⟩
    replace HS := Lib.hid (HS.out.belowAll hb6); replace HO := Lib.hid (HO.out.belowAll hb6); replace HSk := Lib.hid (HSk.out.belowAll hb6); replace HB := Lib.hid (HB.out.trans (hb6.mono HB.out.size))
    clear hb6 hMl hM2l HLe HM HM2 HMe HMe2 hMb
    cases hsm : smpV l
    · have HE : Hid (Kk = l) := Lib.hid (by rw [HK.out, safeV_no hsm])
      go_wp2_with fail
      refine (isSimple_is Al cl l _ HS.out (by omega) _ hsm).mono ?_
      rintro e w7 ⟨rfl, hb7⟩
      replace HS := Lib.hid (HS.out.belowAll hb7); replace HSk := Lib.hid (HSk.out.belowAll hb7); replace HB := Lib.hid (HB.out.trans (hb7.mono HB.out.size))
      clear hb7
      go_wp2_with fail
      refine (equalLines_is Ak Al ck cl Kk l _ HSk.out HS.out (by omega) true (decide_eq_true HE.out)).mono ?_
      rintro e w8 ⟨rfl, hb8⟩
      replace HB := Lib.hid (HB.out.trans (hb8.mono HB.out.size))
      clear hb8 hsm HS HSk HO HE HK HLk hKl hKc hKcc hl1 hl11 hlc hlcc hO3 HF
      go_wp2_with fail
      refine (drawDropPoint_any A len cap _ _ (code_below HC.out HB.out)).mono ?_
      rintro e x1 ⟨Ax, cx, X, i, rfl, hx1, ⟨hx11, hxc, hxcc⟩, hi, hsx, hbx⟩
      have HBx := Lib.hid (HB.out.trans (hbx.mono HB.out.size))
      have HSx := Lib.hid hsx
      clear hbx hsx
      go_wp2_with fail
      refine (dropPoint_any Ax cx X i _ HSx.out (by omega) hxc hxcc).mono ?_
      rintro e x2 ⟨Ay, cy, Y, k, hY, hk, rfl, hoy, hby⟩
      have HBy := Lib.hid (HBx.out.trans (hby.mono HBx.out.size))
      have HSy := Lib.hid (HSx.out.belowAll hby)
      have HYs := Lib.hid (hoy.sees elPoint)
      cases k
      · clear hby hoy
        go_wp2
        go_ret
        exact ⟨rfl, HBy.out⟩
      · have hYl : Y.length + 1 = X.length := by rw [hY.out]; exact drop_one hk.out.symm
        have hYi : (Y.length : Int) = (X.length : Int) - 1 := by omega
        have HSub : Hid (partV Y X = true) := Lib.hid (part_sub (by rw [hY.out]; exact dropV_sub X i))
        have hYb : Y.length ≤ 1099511627776 := by omega
        clear hby hoy hYl
        go_wp2_with fail
        refine (isPartOf_is Ay Ax cy cx Y X _ HYs.out HSy.out hYb (by omega) true HSub.out).mono ?_
        rintro e x3 ⟨rfl, hb3⟩
        go_wp2
        go_ret
        exact ⟨rfl, HBy.out.trans (hb3.mono HBy.out.size)⟩
    · have hsk : smpV Kk = true := by rw [HK.out]; exact HLk.out.2.1 hsm
      have hil : isLn l = true := by have := hsm; unfold smpV at this; rw [Bool.and_eq_true] at this; exact this.2
      have hik : isLn Kk = true := by have := hsk; unfold smpV at this; rw [Bool.and_eq_true] at this; exact this.2
      have hn0 : 0 < Kk.length := by have := (isLn_yes hik).1; omega
      have hn1 : 0 < l.length := by omega
      go_wp2_with fail
      refine (isSimple_is Al cl l _ HS.out (by omega) _ hsm).mono ?_
      rintro e w7 ⟨rfl, hb7⟩
      replace HS := Lib.hid (HS.out.belowAll hb7); replace HSk := Lib.hid (HSk.out.belowAll hb7); replace HO := Lib.hid (HO.out.belowAll hb7)
      have HB7 := Lib.hid (HB.out.trans (hb7.mono HB.out.size))
      clear hb7 HB
      have hends := HLk.out.2.2.2.1 hil
      rw [← HK.out] at hends
      obtain ⟨b, off, p0, p1, r0, r1, rfl, hb, e0, e1, c0, c1, c2, c3'⟩ := endsC HSk.out hn0
      obtain ⟨b', off', q0, q1, s0, s1, rfl, hb', e0', e1', d0, d1, d2, d3⟩ := endsC HS.out hn1
      rw [e0, e1, e0', e1'] at hends
      have hE0 : (decide (p0 = q0) && decide (p1 = q1)) = true := by rw [← pair_dec]; exact decide_eq_true hends.1
      have hE1 : (decide (r0 = s0) && decide (r1 = s1)) = true := by rw [← pair_dec]; exact decide_eq_true hends.2
      obtain ⟨m, hm⟩ : ∃ m, Kk.length - 1 = m := ⟨_, rfl⟩
      obtain ⟨m', hm'⟩ : ∃ m, l.length - 1 = m := ⟨_, rfl⟩
      rw [hm] at c2 c3'; rw [hm'] at d2 d3
      have HQ : Hid (∀ W, Below w7.heap.size w7 W → (W.cell? ⟨b, off, none⟩ = some (.int .i64 p0) ∧ W.cell? ⟨b, off + 1, none⟩ = some (.int .i64 p1) ∧ W.cell? ⟨b', off', none⟩ = some (.int .i64 q0) ∧ W.cell? ⟨b', off' + 1, none⟩ = some (.int .i64 q1)) ∧ W.cell? ⟨b, off + m * 2, none⟩ = some (.int .i64 r0) ∧ W.cell? ⟨b, off + m * 2 + 1, none⟩ = some (.int .i64 r1) ∧ W.cell? ⟨b', off' + m' * 2, none⟩ = some (.int .i64 s0) ∧ W.cell? ⟨b', off' + m' * 2 + 1, none⟩ = some (.int .i64 s1)) := Lib.hid fun W hW => by
        have x := fun o => hW.cell (p := ⟨b, o, none⟩) hb
        have x' := fun o => hW.cell (p := ⟨b', o, none⟩) hb'
        exact ⟨⟨(x _).trans c0, (x _).trans c1, (x' _).trans d0, (x' _).trans d1⟩, (x _).trans c2, (x _).trans c3', (x' _).trans d2, (x' _).trans d3⟩
      have HKw : Hid (∀ W, Below w7.heap.size w7 W → SeesE 2 encPoint W W.heap.size (some ⟨b, off, none⟩) Kk) := Lib.hid fun W hW => (HSk.out.below hW).mono hW.size
      have i0 : (0 : Int) < (Kk.length : Int) := by omega
      have i1 : (0 : Int) < (l.length : Int) := by omega
      have i2 : (Kk.length : Int) - 1 = (m : Int) := by omega
      have i3 : (l.length : Int) - 1 = (m' : Int) := by omega
      have i4 : (m : Int) < (Kk.length : Int) := by omega
      have i5 : (m' : Int) < (l.length : Int) := by omega
      have i6 : IntKind.i64.wrap (m : Int) = (m : Int) := by rw [IntKind.wrap_i64]; omega
      have i7 : IntKind.i64.wrap (m' : Int) = (m' : Int) := by rw [IntKind.wrap_i64]; omega
      have hp0 := ptNeq p0 p1 q0 q1
      have hp1 := ptNeq r0 r1 s0 s1
      rw [hE0, Bool.not_true] at hp0
      rw [hE1, Bool.not_true] at hp1
      clear e0 e1 e0' e1' c0 c1 c2 c3' d0 d1 d2 d3 hm hm' hends hE0 hE1
      go_upto_region 8 with fail
      go_cut [66] (fun v wx => v = .bool false ∧ Hid (Below w7.heap.size w7 wx))
      case first =>
        have HB : Hid (Below w7.heap.size w7 w7.drew) := Lib.hid (Below.refl _ _).drew
        refine wp_region_held_drew (S := (fun w' => (w'.cell? ⟨b, off, none⟩ = some (.int .i64 p0) ∧ w'.cell? ⟨b, off + 1, none⟩ = some (.int .i64 p1) ∧ w'.cell? ⟨b', off', none⟩ = some (.int .i64 q0) ∧ w'.cell? ⟨b', off' + 1, none⟩ = some (.int .i64 q1)) ∧ w'.cell? ⟨b, off + m * 2, none⟩ = some (.int .i64 r0) ∧ w'.cell? ⟨b, off + m * 2 + 1, none⟩ = some (.int .i64 r1) ∧ w'.cell? ⟨b', off' + m' * 2, none⟩ = some (.int .i64 s0) ∧ w'.cell? ⟨b', off' + m' * 2 + 1, none⟩ = some (.int .i64 s1))) (by kernel_rfl) (HQ.out _ HB.out) (fun hHeld => ?_)
        refine to_lin (T := safeLT) (n := 27) safeLS ⟨by kernel_rfl, by kernel_rfl, by kernel_rfl⟩ (by kernel_rfl) (fun hTag => ?_)
        (refine lin_on (v := ?_) rfl (fun _ _ _ h => h) (by rfl) ?_ (by assumption) ?_; rotate_left; (· (intro wq hSw; go_simp; try with_reducible rfl)); try simp only [Act.put, List.setIfInBounds_toArray, List.set_cons_zero, List.set_cons_succ])
        refine lin_call rfl (by rfl) (fun K hK => ?_)
        go_simp
        go_at_call 34
        refine (isSimple_is (some ⟨b, off, none⟩) ck Kk _ (HKw.out _ HB.out) (by omega) true hsk).mono ?_
        rintro e9 w9 ⟨rfl, hb9⟩
        have HB := Lib.hid (HB.out.trans (hb9.mono HB.out.size))
        clear hb9
        go_wp2_with fail
        refine hK.out _ _ ?_ (fun hHeld => ?_)
        · exact (HQ.out _ HB.out)
        clear hK K
        try simp only [Act.put, List.setIfInBounds_toArray, List.set_cons_zero, List.set_cons_succ]
        iterate 25 (refine lin_on (v := ?_) rfl (fun _ _ _ h => h) (by rfl) ?_ (by assumption) ?_; rotate_left; (· (intro wq hSw; go_simp; try with_reducible rfl)); try simp only [Act.put, List.setIfInBounds_toArray, List.set_cons_zero, List.set_cons_succ])
        refine lin_done ?_
        go_wp2_with fail
        go_meet
        exact ⟨by rfl, HB⟩
      case rest =>
      obtain ⟨rfl, HB8⟩ := hcut
      have HB := Lib.hid (HB7.out.trans (HB8.out.mono HB7.out.size))
      have HSk8 := Lib.hid (HSk.out.belowAll HB8.out)
      have HO8 := Lib.hid (HO.out.belowAll HB8.out)
      have HNone : Hid (∀ j : Nat, 1 ≤ j → j + 1 < Kk.length → crnV Kk (j : Int) < least → canV Kk (j : Int) O = false) := Lib.hid (by rw [HK.out]; exact fun j h1 h2 h3 => safeV_none hsm h1 h2 h3)
      have hKb : Kk.length ≤ 274877906944 := by omega
      clear HQ HKw hp0 hp1 i0 i1 i2 i3 i4 i5 i6 i7 HB7 hsm hsk hil hik hn0 hn1 HS HK HLk hl1 hl11 hlc hlcc
      go_wp2_with fail
      go_loopw [7] (fun s7 wr => ∃ t : Nat, (t = 0 ∨ t + 2 ≤ Kk.length) ∧ s7 = .int .i64 ((t + 1 : Nat) : Int) ∧ Hid (Below w.heap.size w wr) ∧ Hid (Below wc.heap.size wc wr)) (fun s7 _ => Kk.length - (intOf s7).toNat)
      case atStart => exact ⟨0, .inl rfl, by go_num, HB, Lib.hid (Below.refl _ _)⟩
      case round =>
        obtain ⟨t, ht, rfl, HBr, HBc⟩ := hrel
        obtain ⟨i, hi⟩ : ∃ i : Int, ((t + 1 : Nat) : Int) = i := ⟨_, rfl⟩
        have HI := Lib.hid hi
        have hi0 : 0 ≤ i ∧ i ≤ 1099511627776 := by omega
        have hw1 : IntKind.i64.wrap (i + 1) = i + 1 := by rw [IntKind.wrap_i64]; omega
        by_cases hlt : t + 2 < Kk.length
        · have hlt' : i + 1 < (Kk.length : Int) := by omega
          rw [hi]
          obtain ⟨a, ha⟩ : ∃ a, crnV Kk i = a := ⟨_, rfl⟩
          have HA := Lib.hid ha
          have HNj : Hid (a < least → canV Kk i O = false) := Lib.hid (fun h => by rw [← hi]; exact HNone.out (t + 1) (by omega) (by omega) (by rw [hi, ha]; exact h))
          have HSr := Lib.hid (HSk8.out.belowAll HBc.out)
          have HOr := Lib.hid (HO8.out.belowAll HBc.out)
          clear hi ha
          go_wp2_with fail
          refine (cornerArea_is _ ck Kk i a _ HSr.out (by omega) HA.out).mono ?_
          rintro e x1 ⟨rfl, hx1⟩
          have HSr1 := Lib.hid (HSr.out.belowAll hx1)
          have HOr1 := Lib.hid (HOr.out.belowAll hx1)
          have HBr1 := Lib.hid (HBr.out.trans (hx1.mono HBr.out.size))
          have HBc1 := Lib.hid (HBc.out.trans (hx1.mono HBc.out.size))
          clear hx1
          by_cases hal : a < least
          · go_wp2_with fail
            refine (canDrop_is _ Ao ck co Kk i O false _ HSr1.out HOr1.out hKb hKc hKcc (by omega) HF.out (HNj.out hal)).mono ?_
            rintro e x2 ⟨rfl, hx2⟩
            have HBr2 := Lib.hid (HBr1.out.trans (hx2.mono HBr1.out.size))
            have HBc2 := Lib.hid (HBc1.out.trans (hx2.mono HBc1.out.size))
            clear hx2
            go_wp2
            go_roundw
            case rel => exact ⟨t + 1, by omega, by have := HI.out; go_num, HBr2, HBc2⟩
            case measure => have := HI.out; simp [intOf]; omega
          · go_wp2
            go_roundw
            case rel => exact ⟨t + 1, by omega, by have := HI.out; go_num, HBr1, HBc1⟩
            case measure => have := HI.out; simp [intOf]; omega
        · have hlt' : ¬ i + 1 < (Kk.length : Int) := by omega
          rw [hi]
          replace HB := HBr
          clear hi HBr HBc HSk8 HO8 HNone hKb hKl hKc hKcc hO3 HF HB8
          go_wp2_with fail
          refine (drawDropPoint_any A len cap _ _ (code_below HC.out HB.out)).mono ?_
          rintro e x1 ⟨Ax, cx, X, i, rfl, hx1, ⟨hx11, hxc, hxcc⟩, hi, hsx, hbx⟩
          have HBx := Lib.hid (HB.out.trans (hbx.mono HB.out.size))
          have HSx := Lib.hid hsx
          clear hbx hsx
          go_wp2_with fail
          refine (dropPoint_any Ax cx X i _ HSx.out (by omega) hxc hxcc).mono ?_
          rintro e x2 ⟨Ay, cy, Y, k, hY, hk, rfl, hoy, hby⟩
          have HBy := Lib.hid (HBx.out.trans (hby.mono HBx.out.size))
          have HSy := Lib.hid (HSx.out.belowAll hby)
          have HYs := Lib.hid (hoy.sees elPoint)
          cases k
          · clear hby hoy
            go_wp2
            go_ret
            exact ⟨rfl, HBy.out⟩
          · have hYl : Y.length + 1 = X.length := by rw [hY.out]; exact drop_one hk.out.symm
            have hYi : (Y.length : Int) = (X.length : Int) - 1 := by omega
            have HSub : Hid (partV Y X = true) := Lib.hid (part_sub (by rw [hY.out]; exact dropV_sub X i))
            have hYb : Y.length ≤ 1099511627776 := by omega
            clear hby hoy hYl
            go_wp2_with fail
            refine (isPartOf_is Ay Ax cy cx Y X _ HYs.out HSy.out hYb (by omega) true HSub.out).mono ?_
            rintro e x3 ⟨rfl, hb3⟩
            go_wp2
            go_ret
            exact ⟨rfl, HBy.out.trans (hb3.mono HBy.out.size)⟩
theorem law_FnSafe_row (A : Option Addr) (len cap : Nat) (z : List Int) (w : World) (hrow : IsRow .u8 w A len cap z) :
    Calls Try.prog 6 #[.slice A len cap] w fun e w' => e = .returned (.bool true) ∧ Below w.heap.size w w' :=
  law_FnSafe A len cap w (code_of_row hrow)
end Go.Proofs.Ytbnjaaegbmhopaa
end
section
namespace Go.Proofs.Ytbnjaaegbmhopaa.fnSafe
open Go.ChangeShapes Go.WideShapes Go.ChangeAt Go.RowKit
open Go.ChangeMaps (open_string shut_string)
set_option linter.unusedVariables false

theorem own : ownKnob Try.prog.godebug = none := by kernel_rfl
theorem laidOut : laidOutB Try.prog = true := by kernel_rfl

theorem walk (a0 : Option Addr) (len0 cap0 : Nat) (z0 : List Int) (w : World) (w0 : IsRow .u8 w a0 len0 cap0 z0) :
    Calls Try.prog 6 #[.slice a0 len0 cap0] w fun e w' => e = .returned (.bool true) ∧ Below w.heap.size w w' := by
  exact law_FnSafe_row a0 len0 cap0 z0 w w0

set_option maxRecDepth 100000 in
theorem lifted (os : Os) (started : os.Started) (H : Type) (enc : TypeId × Value → H) :
    ReturnsInHanded {} Try.checked os 6 .any (Rows.fnSafeSpec.pre6 enc Try.prog Try.f6 Rows.fnSafeRow.domain false) (Rows.fnSafeSpec.post enc Try.prog Try.f6 false true false false) := by
  refine returnsInHanded_of_change (C := Try.checked) own started (by kernel_rfl) Try.func6
    (ChangeSpec.witness6 (enc := enc) (C := Try.checked) false ⟨#[], #[.slice none 0 0], []⟩ 8 (by kernel_rfl) (by kernel_rfl) (by kernel_rfl) (by kernel_rfl)) ?_
  intro W base args ds gs before hval0 hW hcnd _
  have hval : ∀ (j : Nat) t v, Try.f6.params[j]? = some t → args[j]? = some v → Value.okWide Try.prog W .any base t v := hval0
  have hW' := hW
  obtain ⟨p, q, hA0, hV, rfl, hfz, hnd⟩ := hW
  have hA : DataW.TrodAll enc Try.prog W 0 (fun _ => true) true Try.f6.params.toList args.toList ds p := hA0
  rw [Try.params6] at hA hval
  obtain ⟨v0, vs0, d0, ds0, p0, q0, hargs, rfl, rfl, h0, r0⟩ := trodAll_cons hA
  obtain ⟨rfl, rfl, rfl⟩ := trodAll_nil r0
  obtain rfl : args = #[v0] := by cases args; simp_all
  obtain ⟨rfl, rfl⟩ := trodVars_none hV
  obtain ⟨a0, len0, cap0, rfl⟩ := okWide_slice Try.underlying22 (hval 0 22 v0 rfl rfl)
  have k0 := h0
  have lt0 : ∀ x ∈ p0, x.block < W.heap.size := by obtain ⟨m, hm⟩ := k0; exact DataW.trod_lt m _ _ _ hm
  obtain ⟨z0, w0⟩ : ∃ zs, IsRow .u8 W a0 len0 cap0 zs := by
    obtain ⟨fuel, hf⟩ := h0
    rcases open_ints Try.underlying22 Try.underlying5 (by kernel_rfl) hf with ⟨hcs, _⟩ | ⟨x, l, c, zs, hcs, _, hl, hm, hz, _, hcell, hwz⟩
    · simp [Value.cells] at hcs
      obtain ⟨rfl, rfl, rfl⟩ := hcs
      exact ⟨[], .inl ⟨rfl, rfl, rfl, rfl⟩⟩
    · simp [Value.cells] at hcs
      obtain ⟨rfl, rfl, rfl⟩ := hcs
      exact ⟨zs, .inr ⟨_, rfl, hl, hm, by simpa using hz, hcell, hwz⟩⟩
  clear hA0 hval0
  refine (walk a0 len0 cap0 z0 W w0).mono fun e W' ⟨he, bel⟩ => ?_
  subst he
  exact ⟨_, rfl, _, _, _, [], _, [], hW', trodAll_mk1 (shut_bool Try.underlying4 _), (trodAll_cons_mk (Below.trod laidOut (by kernel_rfl) (of_decide_eq_true (by kernel_rfl)) k0 bel lt0) trodAll_mk0), rfl, bel.frame _, fun h => by cases h⟩

theorem over : Rows.fnSafeRow.holds Try.pinned (OpenSpec.ofChange Rows.fnSafeSpec) :=
  OpenClaim.holds_of_wide 6 Try.f6 rfl rfl rfl rfl rfl rfl rfl ⟨rfl, rfl, rfl, rfl, rfl⟩ rfl rfl rfl rfl rfl (by kernel_rfl) Try.func6 (by kernel_rfl)
    (of_decide_eq_true (by kernel_rfl)) (by unfold Func.isWrapper; first | (rw [if_pos (by decide +kernel)]; kernel_rfl) | (rw [if_neg (by decide +kernel)]; exact ⟨rfl, rfl⟩))
    (fun os started H enc _ => lifted os started H enc)

/-- The statement. -/
theorem proved : Rows.FnSafeSaid := over
#print axioms proved
end Go.Proofs.Ytbnjaaegbmhopaa.fnSafe
end
