/- Rings in the model: IsRing and RingSegments. -/
import Derived.Test.YtbnjaaegbmhopaaDoorRingS
import Derived.Test.YtbnjaaegbmhopaaDoorRingI
namespace Go.Proofs.YtbnjaaegbmhopaaDoor
open Go.ChangeShapes Go.WideShapes Go.ChangeAt Go.RowKit
set_option linter.unusedVariables false

theorem sIsSegS_is (s : Int × Int × Int × Int) (k : Bool) (w : World) (h : sOk s = k) :
    Calls Tryd.prog 31 #[sV s] w fun e w' => e = .returned (.bool k) ∧ Below w.heap.size w w' := sIsSegment_is _ _ _ _ k w h
theorem rg_no_seg {l : List (Int × Int)} {i : Nat} {s : Int × Int × Int × Int} (hs : (rgS l)[i]? = some s) (h : sOk s = false) : isRg l = false := by
  cases hh : isRg l
  · rfl
  · rw [((isRg_iff l).1 hh).2.1 s (List.mem_of_getElem? hs)] at h; cases h
theorem rg_no_turn {l : List (Int × Int)} {i k : Nat} {u v : Int × Int × Int × Int} (hi : (rgS l)[i]? = some u) (hk : (rgS l)[k]? = some v) (hik : i < k) (h : ¬ howS u v = wantC true (rgS l).length i k) : isRg l = false := by
  rw [isRg_turn, turn_no hi hk hik h, Bool.and_false]
set_option maxRecDepth 100000 in
set_option maxHeartbeats 2000000 in
theorem sIsRing_is (A : Option Addr) (c : Nat) (l : List (Int × Int)) (w : World) (hs : SeesE 2 encPoint w w.heap.size A l) (hl : l.length ≤ 274877906944) (z : Bool) (hz : isRg l = z) :
    Calls Tryd.prog 9 #[.slice A l.length c] w fun e w' => e = .returned (.bool z) ∧ Below w.heap.size w w' := by
  have HS := Lib.hid hs
  have HZ := Lib.hid hz
  clear hs hz
  go_enter Tryd.func9, Tryd.ntmps9
  cases hin : inB l.length 3 10
  · obtain rfl : z = false := by rw [← HZ.out, isRg_turn, hin]; rfl
    go_wp2_with (go_at_call 29; refine (l1in_is _ _ _ _ _ hin).mono ?_; rintro e w1 ⟨rfl, rfl⟩)
    go_ret
    exact ⟨rfl, Below.refl _ _⟩
  · have h310 : 3 ≤ l.length ∧ l.length ≤ 10 := by simp only [inB, decide_eq_true_eq] at hin; omega
    go_wp2_with (first
      | (go_at_call 29; refine (l1in_is _ _ _ _ _ hin).mono ?_; rintro e w1 ⟨rfl, rfl⟩)
      | (go_at_call 30; refine (l7Segments_any A c l _ HS.out hl).mono ?_; rintro e w1 ⟨A1, c1, L, hL, rfl, ho1, hb1⟩))
    have HO1 := Lib.hid ho1; have HB1 := Lib.hid hb1; have HL := hL
    have h10 : L.length ≤ 10 := by rw [hL.out, rgS_len]; exact h310.2
    have HTV : Hid (turnV true L = z) := Lib.hid (by rw [← HZ.out, isRg_turn, hin, Bool.true_and, HL.out])
    clear ho1 hb1 hL h310
    go_loopw [4] (fun i wr => ∃ j : Nat, j ≤ L.length ∧ i = .int .i64 j ∧ Hid (∀ k, k < j → ∀ i, i < k → prOk true L i k = true) ∧ Hid (OwnE 4 encSegment wr w.heap.size 53 (.slice A1 L.length c1) L) ∧ Hid (Below w.heap.size w wr)) (fun i _ => L.length - (intOf i).toNat)
    case atStart => exact ⟨0, Nat.zero_le _, rfl, Lib.hid (fun k hk => by omega), HO1, HB1⟩
    case round =>
      obtain ⟨i, hi, rfl, hp, HO, HB⟩ := hrel
      clear HO1 HB1
      by_cases hlt : i < L.length
      · have hli : (i : Int) < (L.length : Int) := by omega
        obtain ⟨b, off, v, rfl, hbl, hv, -⟩ := (HO.out.sees elSegment).lt hlt
        obtain ⟨k4, k5, k6, k7⟩ := cells4 (HO.out.sees elSegment) hv
        have HV := Lib.hid hv
        have HV' : Hid ((rgS l)[i]? = some v) := Lib.hid (by rw [← HL.out]; exact hv)
        clear hv
        cases hok : sOk v
        · obtain rfl : z = false := HZ.out.symm.trans (rg_no_seg HV'.out hok)
          go_wp2_with (go_at_call 31; refine (sIsSegS_is v false _ hok).mono ?_; rintro e w9 ⟨rfl, hb9⟩)
          go_ret
          exact ⟨rfl, HB.out.trans (hb9.mono HB.out.size)⟩
        · go_wp2_with (go_at_call 31; refine (sIsSegS_is v true _ hok).mono ?_; rintro e w9 ⟨rfl, hb9⟩; have HB9 := Lib.hid (HB.out.trans (hb9.mono HB.out.size)); have HO9 := Lib.hid (HO.out.belowAll hb9))
          clear hb9 k4 k5 k6 k7
          go_loopw [5] (fun k wx => ∃ j : Nat, j ≤ i ∧ k = .int .i64 j ∧ Hid (∀ q, q < j → prOk true L q i = true) ∧ Hid (OwnE 4 encSegment wx w.heap.size 53 (.slice (some ⟨b, off, none⟩) L.length c1) L) ∧ Hid (Below w.heap.size w wx)) (fun k _ => i - (intOf k).toNat)
          case atStart => exact ⟨0, Nat.zero_le _, rfl, Lib.hid (fun k hk => by omega), HO9, HB9⟩
          case round =>
            obtain ⟨j, hj, rfl, hq, HO, HB⟩ := hrel
            by_cases hlj : j < i
            · have hlj' : (j : Int) < (L.length : Int) := by omega
              have hlj2 : (j : Int) < (i : Int) := by omega
              obtain ⟨u, hu⟩ : ∃ u, L[j]? = some u := ⟨_, List.getElem?_eq_getElem (by omega)⟩
              obtain ⟨k0, k1, k2, k3⟩ := cells4 (HO.out.sees elSegment) hu
              obtain ⟨k4, k5, k6, k7⟩ := cells4 (HO.out.sees elSegment) HV.out
              have HU := Lib.hid hu
              have HU' : Hid ((rgS l)[j]? = some u) := Lib.hid (by rw [← HL.out]; exact hu)
              clear hu
              obtain ⟨m, hm⟩ : ∃ m, howS v u = m := ⟨_, rfl⟩
              have HM : Hid (howS u v = m) := Lib.hid (by rw [← hm]; exact howS_comm v u)
              have hw1 : wrap64 ((j : Int) + 1) = (j : Int) + 1 := by unfold wrap64; omega
              have hw2 : wrap64 ((i : Int) + 1) = (i : Int) + 1 := by unfold wrap64; omega
              by_cases he : j + 1 = i
              · have he1 : ((j : Int) + 1 == (i : Int)) = true := by simp; omega
                have he2 : (j : Int) + 1 = (i : Int) := by omega
                have HWn : Hid (wantC true L.length j i = 1) := Lib.hid (if_pos (.inl he))
                by_cases h1 : m = 1
                · subst h1
                  go_wp2
                  go_region_held3 (fun w' => (w'.cell? ⟨b, off + j * 4, none⟩ = some (.int .i64 u.1) ∧ w'.cell? ⟨b, off + j * 4 + 1, none⟩ = some (.int .i64 u.2.1) ∧ w'.cell? ⟨b, off + j * 4 + 2, none⟩ = some (.int .i64 u.2.2.1) ∧ w'.cell? ⟨b, off + j * 4 + 3, none⟩ = some (.int .i64 u.2.2.2)) ∧ (w'.cell? ⟨b, off + i * 4, none⟩ = some (.int .i64 v.1) ∧ w'.cell? ⟨b, off + i * 4 + 1, none⟩ = some (.int .i64 v.2.1) ∧ w'.cell? ⟨b, off + i * 4 + 2, none⟩ = some (.int .i64 v.2.2.1) ∧ w'.cell? ⟨b, off + i * 4 + 3, none⟩ = some (.int .i64 v.2.2.2))) (first | exact ⟨⟨k0, k1, k2, k3⟩, ⟨k4, k5, k6, k7⟩⟩ | exact hQ) (first
                    | (go_at_call 32; refine (sHowS_is v u _ _ hm).mono ?_; rintro e w9 ⟨rfl, hb9⟩; have HB9 := Lib.hid (HB.out.drew.trans (hb9.mono HB.out.size)); have HO9 := Lib.hid ((HO.out.drew).belowAll hb9); have hQ := And.intro (cells4 (HO9.out.sees elSegment) HU.out) (cells4 (HO9.out.sees elSegment) HV.out)) | fail)
                  all_goals
                    go_wp2
                    go_roundw
                    case rel => exact ⟨j + 1, by omega, by go_num, Lib.hid (upto_step hq.out (pr_ok HU.out HV.out (HM.out.trans HWn.out.symm))), HO9, HB9⟩
                    case measure => simp [intOf]; omega
                · obtain rfl : z = false := HZ.out.symm.trans (rg_no_turn HU'.out HV'.out hlj (by rw [← HL.out, HM.out, HWn.out]; exact h1))
                  go_wp2
                  go_region_held3 (fun w' => (w'.cell? ⟨b, off + j * 4, none⟩ = some (.int .i64 u.1) ∧ w'.cell? ⟨b, off + j * 4 + 1, none⟩ = some (.int .i64 u.2.1) ∧ w'.cell? ⟨b, off + j * 4 + 2, none⟩ = some (.int .i64 u.2.2.1) ∧ w'.cell? ⟨b, off + j * 4 + 3, none⟩ = some (.int .i64 u.2.2.2)) ∧ (w'.cell? ⟨b, off + i * 4, none⟩ = some (.int .i64 v.1) ∧ w'.cell? ⟨b, off + i * 4 + 1, none⟩ = some (.int .i64 v.2.1) ∧ w'.cell? ⟨b, off + i * 4 + 2, none⟩ = some (.int .i64 v.2.2.1) ∧ w'.cell? ⟨b, off + i * 4 + 3, none⟩ = some (.int .i64 v.2.2.2))) (first | exact ⟨⟨k0, k1, k2, k3⟩, ⟨k4, k5, k6, k7⟩⟩ | exact hQ) (first
                    | (go_at_call 32; refine (sHowS_is v u _ _ hm).mono ?_; rintro e w9 ⟨rfl, hb9⟩; have HB9 := Lib.hid (HB.out.drew.trans (hb9.mono HB.out.size)); have HO9 := Lib.hid ((HO.out.drew).belowAll hb9); have hQ := And.intro (cells4 (HO9.out.sees elSegment) HU.out) (cells4 (HO9.out.sees elSegment) HV.out)) | fail)
                  all_goals
                    go_wp2
                    go_ret
                    exact ⟨rfl, HB9.out⟩
              · have he1 : ((j : Int) + 1 == (i : Int)) = false := by simp; omega
                have he2 : ¬ ((j : Int) + 1 = (i : Int)) := by omega
                by_cases hj0 : j = 0
                · have hj1 : ((j : Int) == 0) = true := by simp; omega
                  have HJ0 := Lib.hid hj0
                  clear hj0
                  by_cases hi0 : i + 1 = L.length
                  · have hi1 : ((i : Int) + 1 == (L.length : Int)) = true := by simp; omega
                    have hi2 : (i : Int) + 1 = (L.length : Int) := by omega
                    have HWn : Hid (wantC true L.length j i = 1) := Lib.hid (if_pos (.inr ⟨rfl, HJ0.out, hi0⟩))
                    by_cases h1 : m = 1
                    · subst h1
                      go_wp2
                      go_region_held3 (fun w' => (w'.cell? ⟨b, off + j * 4, none⟩ = some (.int .i64 u.1) ∧ w'.cell? ⟨b, off + j * 4 + 1, none⟩ = some (.int .i64 u.2.1) ∧ w'.cell? ⟨b, off + j * 4 + 2, none⟩ = some (.int .i64 u.2.2.1) ∧ w'.cell? ⟨b, off + j * 4 + 3, none⟩ = some (.int .i64 u.2.2.2)) ∧ (w'.cell? ⟨b, off + i * 4, none⟩ = some (.int .i64 v.1) ∧ w'.cell? ⟨b, off + i * 4 + 1, none⟩ = some (.int .i64 v.2.1) ∧ w'.cell? ⟨b, off + i * 4 + 2, none⟩ = some (.int .i64 v.2.2.1) ∧ w'.cell? ⟨b, off + i * 4 + 3, none⟩ = some (.int .i64 v.2.2.2))) (first | exact ⟨⟨k0, k1, k2, k3⟩, ⟨k4, k5, k6, k7⟩⟩ | exact hQ) (first
                        | (go_at_call 32; refine (sHowS_is v u _ _ hm).mono ?_; rintro e w9 ⟨rfl, hb9⟩; have HB9 := Lib.hid (HB.out.drew.trans (hb9.mono HB.out.size)); have HO9 := Lib.hid ((HO.out.drew).belowAll hb9); have hQ := And.intro (cells4 (HO9.out.sees elSegment) HU.out) (cells4 (HO9.out.sees elSegment) HV.out)) | fail)
                      all_goals
                        go_wp2
                        go_roundw
                        case rel => exact ⟨j + 1, by omega, by go_num, Lib.hid (upto_step hq.out (pr_ok HU.out HV.out (HM.out.trans HWn.out.symm))), HO9, HB9⟩
                        case measure => simp [intOf]; omega
                    · obtain rfl : z = false := HZ.out.symm.trans (rg_no_turn HU'.out HV'.out hlj (by rw [← HL.out, HM.out, HWn.out]; exact h1))
                      go_wp2
                      go_region_held3 (fun w' => (w'.cell? ⟨b, off + j * 4, none⟩ = some (.int .i64 u.1) ∧ w'.cell? ⟨b, off + j * 4 + 1, none⟩ = some (.int .i64 u.2.1) ∧ w'.cell? ⟨b, off + j * 4 + 2, none⟩ = some (.int .i64 u.2.2.1) ∧ w'.cell? ⟨b, off + j * 4 + 3, none⟩ = some (.int .i64 u.2.2.2)) ∧ (w'.cell? ⟨b, off + i * 4, none⟩ = some (.int .i64 v.1) ∧ w'.cell? ⟨b, off + i * 4 + 1, none⟩ = some (.int .i64 v.2.1) ∧ w'.cell? ⟨b, off + i * 4 + 2, none⟩ = some (.int .i64 v.2.2.1) ∧ w'.cell? ⟨b, off + i * 4 + 3, none⟩ = some (.int .i64 v.2.2.2))) (first | exact ⟨⟨k0, k1, k2, k3⟩, ⟨k4, k5, k6, k7⟩⟩ | exact hQ) (first
                        | (go_at_call 32; refine (sHowS_is v u _ _ hm).mono ?_; rintro e w9 ⟨rfl, hb9⟩; have HB9 := Lib.hid (HB.out.drew.trans (hb9.mono HB.out.size)); have HO9 := Lib.hid ((HO.out.drew).belowAll hb9); have hQ := And.intro (cells4 (HO9.out.sees elSegment) HU.out) (cells4 (HO9.out.sees elSegment) HV.out)) | fail)
                      all_goals
                        go_wp2
                        go_ret
                        exact ⟨rfl, HB9.out⟩
                  · have hi1 : ((i : Int) + 1 == (L.length : Int)) = false := by simp; omega
                    have hi2 : ¬ ((i : Int) + 1 = (L.length : Int)) := by omega
                    have HWn : Hid (wantC true L.length j i = 0) := Lib.hid (if_neg (by simp; omega))
                    by_cases h1 : m = 0
                    · subst h1
                      go_wp2
                      go_region_held3 (fun w' => (w'.cell? ⟨b, off + j * 4, none⟩ = some (.int .i64 u.1) ∧ w'.cell? ⟨b, off + j * 4 + 1, none⟩ = some (.int .i64 u.2.1) ∧ w'.cell? ⟨b, off + j * 4 + 2, none⟩ = some (.int .i64 u.2.2.1) ∧ w'.cell? ⟨b, off + j * 4 + 3, none⟩ = some (.int .i64 u.2.2.2)) ∧ (w'.cell? ⟨b, off + i * 4, none⟩ = some (.int .i64 v.1) ∧ w'.cell? ⟨b, off + i * 4 + 1, none⟩ = some (.int .i64 v.2.1) ∧ w'.cell? ⟨b, off + i * 4 + 2, none⟩ = some (.int .i64 v.2.2.1) ∧ w'.cell? ⟨b, off + i * 4 + 3, none⟩ = some (.int .i64 v.2.2.2))) (first | exact ⟨⟨k0, k1, k2, k3⟩, ⟨k4, k5, k6, k7⟩⟩ | exact hQ) (first
                        | (go_at_call 32; refine (sHowS_is v u _ _ hm).mono ?_; rintro e w9 ⟨rfl, hb9⟩; have HB9 := Lib.hid (HB.out.drew.trans (hb9.mono HB.out.size)); have HO9 := Lib.hid ((HO.out.drew).belowAll hb9); have hQ := And.intro (cells4 (HO9.out.sees elSegment) HU.out) (cells4 (HO9.out.sees elSegment) HV.out)) | fail)
                      all_goals
                        go_wp2
                        go_roundw
                        case rel => exact ⟨j + 1, by omega, by go_num, Lib.hid (upto_step hq.out (pr_ok HU.out HV.out (HM.out.trans HWn.out.symm))), HO9, HB9⟩
                        case measure => simp [intOf]; omega
                    · obtain rfl : z = false := HZ.out.symm.trans (rg_no_turn HU'.out HV'.out hlj (by rw [← HL.out, HM.out, HWn.out]; exact h1))
                      go_wp2
                      go_region_held3 (fun w' => (w'.cell? ⟨b, off + j * 4, none⟩ = some (.int .i64 u.1) ∧ w'.cell? ⟨b, off + j * 4 + 1, none⟩ = some (.int .i64 u.2.1) ∧ w'.cell? ⟨b, off + j * 4 + 2, none⟩ = some (.int .i64 u.2.2.1) ∧ w'.cell? ⟨b, off + j * 4 + 3, none⟩ = some (.int .i64 u.2.2.2)) ∧ (w'.cell? ⟨b, off + i * 4, none⟩ = some (.int .i64 v.1) ∧ w'.cell? ⟨b, off + i * 4 + 1, none⟩ = some (.int .i64 v.2.1) ∧ w'.cell? ⟨b, off + i * 4 + 2, none⟩ = some (.int .i64 v.2.2.1) ∧ w'.cell? ⟨b, off + i * 4 + 3, none⟩ = some (.int .i64 v.2.2.2))) (first | exact ⟨⟨k0, k1, k2, k3⟩, ⟨k4, k5, k6, k7⟩⟩ | exact hQ) (first
                        | (go_at_call 32; refine (sHowS_is v u _ _ hm).mono ?_; rintro e w9 ⟨rfl, hb9⟩; have HB9 := Lib.hid (HB.out.drew.trans (hb9.mono HB.out.size)); have HO9 := Lib.hid ((HO.out.drew).belowAll hb9); have hQ := And.intro (cells4 (HO9.out.sees elSegment) HU.out) (cells4 (HO9.out.sees elSegment) HV.out)) | fail)
                      all_goals
                        go_wp2
                        go_ret
                        exact ⟨rfl, HB9.out⟩
                · have hj1 : ((j : Int) == 0) = false := by simp; omega
                  have hj2 : ¬ ((j : Int) = 0) := by omega
                  have HWn : Hid (wantC true L.length j i = 0) := Lib.hid (if_neg (by simp; omega))
                  by_cases h1 : m = 0
                  · subst h1
                    go_wp2
                    go_region_held3 (fun w' => (w'.cell? ⟨b, off + j * 4, none⟩ = some (.int .i64 u.1) ∧ w'.cell? ⟨b, off + j * 4 + 1, none⟩ = some (.int .i64 u.2.1) ∧ w'.cell? ⟨b, off + j * 4 + 2, none⟩ = some (.int .i64 u.2.2.1) ∧ w'.cell? ⟨b, off + j * 4 + 3, none⟩ = some (.int .i64 u.2.2.2)) ∧ (w'.cell? ⟨b, off + i * 4, none⟩ = some (.int .i64 v.1) ∧ w'.cell? ⟨b, off + i * 4 + 1, none⟩ = some (.int .i64 v.2.1) ∧ w'.cell? ⟨b, off + i * 4 + 2, none⟩ = some (.int .i64 v.2.2.1) ∧ w'.cell? ⟨b, off + i * 4 + 3, none⟩ = some (.int .i64 v.2.2.2))) (first | exact ⟨⟨k0, k1, k2, k3⟩, ⟨k4, k5, k6, k7⟩⟩ | exact hQ) (first
                      | (go_at_call 32; refine (sHowS_is v u _ _ hm).mono ?_; rintro e w9 ⟨rfl, hb9⟩; have HB9 := Lib.hid (HB.out.drew.trans (hb9.mono HB.out.size)); have HO9 := Lib.hid ((HO.out.drew).belowAll hb9); have hQ := And.intro (cells4 (HO9.out.sees elSegment) HU.out) (cells4 (HO9.out.sees elSegment) HV.out)) | fail)
                    all_goals
                      go_wp2
                      go_roundw
                      case rel => exact ⟨j + 1, by omega, by go_num, Lib.hid (upto_step hq.out (pr_ok HU.out HV.out (HM.out.trans HWn.out.symm))), HO9, HB9⟩
                      case measure => simp [intOf]; omega
                  · obtain rfl : z = false := HZ.out.symm.trans (rg_no_turn HU'.out HV'.out hlj (by rw [← HL.out, HM.out, HWn.out]; exact h1))
                    go_wp2
                    go_region_held3 (fun w' => (w'.cell? ⟨b, off + j * 4, none⟩ = some (.int .i64 u.1) ∧ w'.cell? ⟨b, off + j * 4 + 1, none⟩ = some (.int .i64 u.2.1) ∧ w'.cell? ⟨b, off + j * 4 + 2, none⟩ = some (.int .i64 u.2.2.1) ∧ w'.cell? ⟨b, off + j * 4 + 3, none⟩ = some (.int .i64 u.2.2.2)) ∧ (w'.cell? ⟨b, off + i * 4, none⟩ = some (.int .i64 v.1) ∧ w'.cell? ⟨b, off + i * 4 + 1, none⟩ = some (.int .i64 v.2.1) ∧ w'.cell? ⟨b, off + i * 4 + 2, none⟩ = some (.int .i64 v.2.2.1) ∧ w'.cell? ⟨b, off + i * 4 + 3, none⟩ = some (.int .i64 v.2.2.2))) (first | exact ⟨⟨k0, k1, k2, k3⟩, ⟨k4, k5, k6, k7⟩⟩ | exact hQ) (first
                      | (go_at_call 32; refine (sHowS_is v u _ _ hm).mono ?_; rintro e w9 ⟨rfl, hb9⟩; have HB9 := Lib.hid (HB.out.drew.trans (hb9.mono HB.out.size)); have HO9 := Lib.hid ((HO.out.drew).belowAll hb9); have hQ := And.intro (cells4 (HO9.out.sees elSegment) HU.out) (cells4 (HO9.out.sees elSegment) HV.out)) | fail)
                    all_goals
                      go_wp2
                      go_ret
                      exact ⟨rfl, HB9.out⟩
            · obtain rfl : j = i := by omega
              go_wp2
              go_roundw
              case rel => exact ⟨j + 1, by omega, by go_num, Lib.hid (upto_step hp.out hq.out), HO, HB⟩
              case measure => simp [intOf]; omega
      · obtain rfl : i = L.length := by omega
        obtain rfl : z = true := HTV.out.symm.trans (turn_yes hp.out)
        go_wp2
        go_ret
        exact ⟨rfl, HB.out⟩
end Go.Proofs.YtbnjaaegbmhopaaDoor
