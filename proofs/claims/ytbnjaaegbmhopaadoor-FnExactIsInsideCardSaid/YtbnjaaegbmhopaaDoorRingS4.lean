/- Rings in the model: IsInside. -/
import Derived.Test.YtbnjaaegbmhopaaDoorRingS2
import Derived.Test.YtbnjaaegbmhopaaDoorSegOn
import Derived.Test.YtbnjaaegbmhopaaDoorLineS2
namespace Go.Proofs.YtbnjaaegbmhopaaDoor
open Go.ChangeShapes Go.WideShapes Go.ChangeAt Go.RowKit
set_option linter.unusedVariables false

def parC (p : Int × Int) (L : List (Int × Int × Int × Int)) (j : Nat) : Bool := decide ((L.take j).countP (crC p) % 2 = 1)
theorem parC_step {p : Int × Int} {L : List (Int × Int × Int × Int)} {j : Nat} {x : Int × Int × Int × Int} (h : L[j]? = some x) : parC p L (j + 1) = if crC p x = true then !(parC p L j) else parC p L j := by
  unfold parC
  rw [List.take_add_one, h, List.countP_append]
  show decide (((L.take j).countP (crC p) + List.countP (crC p) [x]) % 2 = 1) = _
  rw [List.countP_singleton]
  split
  · rw [← decide_not]; exact decide_eq_decide.2 (by omega)
  · rfl
theorem inC_end {p : Int × Int} {l : List (Int × Int)} (hl : isRg l = true) (hp : isP p.1 p.2 = true) (h : ∀ k, k < (rgS l).length → ∀ x, (rgS l)[k]? = some x → onS p x = false) : inV l p = parC p (rgS l) (rgS l).length := by
  have : (rgS l).any (onS p) = false := by
    rw [List.any_eq_false]; intro s hs
    obtain ⟨k, hk⟩ := List.getElem?_of_mem hs
    rw [h k (List.getElem?_eq_some_iff.1 hk).1 s hk]; decide
  unfold inV parC
  rw [this, hl, hp, List.take_length, Bool.false_or, Bool.true_and, Bool.true_and]
theorem inC_on {p : Int × Int} {l : List (Int × Int)} {x : Int × Int × Int × Int} {j : Nat} (hl : isRg l = true) (hp : isP p.1 p.2 = true) (hx : (rgS l)[j]? = some x) (h : onS p x = true) : inV l p = true := by
  unfold inV
  rw [List.any_eq_true.2 ⟨x, List.mem_of_getElem? hx, h⟩, hl, hp]; rfl
theorem crC_no {x y : Int} {s : Int × Int × Int × Int} (h : (y < s.2.1 ∧ y < s.2.2.2) ∨ (¬ y < s.2.1 ∧ ¬ y < s.2.2.2)) : crC (x, y) s = false := by
  unfold crC
  have : (decide (s.2.1 > y) != decide (s.2.2.2 > y)) = false := by
    rcases h with ⟨h1, h2⟩ | ⟨h1, h2⟩
    · rw [decide_eq_true h1, decide_eq_true h2]; rfl
    · rw [decide_eq_false h1, decide_eq_false h2]; rfl
  show ((decide (s.2.1 > y) != decide (s.2.2.2 > y)) && _) = false
  rw [this, Bool.false_and]
theorem crC_up {x y : Int} {s : Int × Int × Int × Int} (h1 : ¬ y < s.2.1) (h2 : y < s.2.2.2) : crC (x, y) s = decide (0 < crs s.1 s.2.1 s.2.2.1 s.2.2.2 x y) := by
  show ((decide (s.2.1 > y) != decide (s.2.2.2 > y)) && ((decide (s.2.2.2 > s.2.1) && decide (crs s.1 s.2.1 s.2.2.1 s.2.2.2 x y > 0)) || (decide (s.2.2.2 < s.2.1) && decide (crs s.1 s.2.1 s.2.2.1 s.2.2.2 x y < 0)))) = _
  rw [decide_eq_false (show ¬ s.2.1 > y from h1), decide_eq_true (show s.2.2.2 > y from h2), decide_eq_true (show s.2.2.2 > s.2.1 by omega), decide_eq_false (show ¬ s.2.2.2 < s.2.1 by omega)]
  simp
theorem crC_down {x y : Int} {s : Int × Int × Int × Int} (h1 : y < s.2.1) (h2 : ¬ y < s.2.2.2) : crC (x, y) s = decide (crs s.1 s.2.1 s.2.2.1 s.2.2.2 x y < 0) := by
  show ((decide (s.2.1 > y) != decide (s.2.2.2 > y)) && ((decide (s.2.2.2 > s.2.1) && decide (crs s.1 s.2.1 s.2.2.1 s.2.2.2 x y > 0)) || (decide (s.2.2.2 < s.2.1) && decide (crs s.1 s.2.1 s.2.2.1 s.2.2.2 x y < 0)))) = _
  rw [decide_eq_true (show s.2.1 > y from h1), decide_eq_false (show ¬ s.2.2.2 > y from h2), decide_eq_false (show ¬ s.2.2.2 > s.2.1 by omega), decide_eq_true (show s.2.2.2 < s.2.1 by omega)]
  simp
set_option maxRecDepth 100000 in
set_option maxHeartbeats 8000000 in
theorem sIsInside_is (A : Option Addr) (c : Nat) (l : List (Int × Int)) (x y : Int) (w : World) (hs : SeesE 2 encPoint w w.heap.size A l) (hl : l.length ≤ 274877906944) (z : Bool) (hz : inV l (x, y) = z) :
    Calls Tryd.prog 15 #[.slice A l.length c, PtV x y] w fun e w' => e = .returned (.bool z) ∧ Below w.heap.size w w' := by
  have HB0 := Lib.hid ((Below.refl w.heap.size w).alloc (Nat.le_refl _) (.cells #[.int .i64 x, .int .i64 y] 33))
  have HS := Lib.hid ((hs.alloc (Nat.le_refl _) (.cells #[.int .i64 x, .int .i64 y] 33)).mono HB0.out.size)
  have HP := Lib.hid (Vars.of1 w #[.int .i64 x, .int .i64 y] 33)
  have HV := Lib.hid hz
  clear hs hz
  go_enter Tryd.func15, Tryd.ntmps15
  cases hz : isRg l
  · obtain rfl : z = false := by rw [← HV.out]; unfold inV; rw [hz]; rfl
    go_wp2_with (go_at_call 9; refine (sIsRing_is A c l _ HS.out hl _ hz).mono ?_; rintro e w1 ⟨rfl, hb1⟩)
    go_ret
    exact ⟨rfl, HB0.out.trans (hb1.mono HB0.out.size)⟩
  · cases hp : isP x y
    · obtain rfl : z = false := by rw [← HV.out]; unfold inV; rw [hz]; show (true && isP x y && _) = false; rw [hp]; rfl
      go_wp2_with (first
        | (go_at_call 9; refine (sIsRing_is A c l _ HS.out hl _ hz).mono ?_; rintro e w1 ⟨rfl, hb1⟩; have HB1 := Lib.hid (HB0.out.trans (hb1.mono HB0.out.size)); obtain ⟨q0, q1⟩ := (HP.out.next hb1).c20)
        | (go_at_call 36; refine (sIsPoint_is _ _ _ _ hp).mono ?_; rintro e w2 ⟨rfl, hb2⟩))
      go_ret
      exact ⟨rfl, HB1.out.trans (hb2.mono HB1.out.size)⟩
    · have HOK : Hid ((∀ x ∈ rgS l, sOk x = true) ∧ (rgS l).length ≤ 10) := Lib.hid ⟨((isRg_iff l).1 hz).2.1, by rw [rgS_len]; exact ((isRg_iff l).1 hz).1.2⟩
      have HXY := Lib.hid (isP_bd hp)
      go_wp2_with (first
        | (go_at_call 9; refine (sIsRing_is A c l _ HS.out hl _ hz).mono ?_; rintro e w1 ⟨rfl, hb1⟩; have HB1 := Lib.hid (HB0.out.trans (hb1.mono HB0.out.size)); have HP1 := Lib.hid (HP.out.next hb1); obtain ⟨q0, q1⟩ := HP1.out.c20; have HS1 := Lib.hid (HS.out.belowAll hb1))
        | (go_at_call 36; refine (sIsPoint_is _ _ _ _ hp).mono ?_; rintro e w2 ⟨rfl, hb2⟩; have HB2 := Lib.hid (HB1.out.trans (hb2.mono HB1.out.size)); have HP2 := Lib.hid (HP1.out.next hb2); have HS2 := Lib.hid (HS1.out.belowAll hb2))
        | (go_at_call 30; refine (l7Segments_any A c l _ HS2.out hl).mono ?_; rintro e w3 ⟨A1, c1, L, hL, rfl, ho3, hb3⟩))
      have HB3 := Lib.hid (HB2.out.trans (hb3.mono HB2.out.size)); have HP3 := Lib.hid (HP2.out.next hb3)
      have HO3 := Lib.hid ho3; have HL := hL
      clear hb3 ho3 hL q0 q1
      have h10 : L.length ≤ 10 := by rw [HL.out]; exact HOK.out.2
      go_loopw [5, 7] (fun v i wr => ∃ j : Nat, j ≤ L.length ∧ v = .bool (parC (x, y) L j) ∧ i = .int .i64 j ∧ Hid (∀ k, k < j → ∀ s, L[k]? = some s → onS (x, y) s = false) ∧ Hid (OwnE 4 encSegment wr w2.heap.size 53 (.slice A1 L.length c1) L) ∧ Hid (Below w3.heap.size w3 wr)) (fun _ i _ => L.length - (intOf i).toNat)
      case atStart => exact ⟨0, Nat.zero_le _, rfl, rfl, Lib.hid (fun k hk => by omega), HO3, Lib.hid (Below.refl _ _)⟩
      case round =>
        obtain ⟨j, hj, rfl, rfl, hon, HO, HB⟩ := hrel
        by_cases hlt : j < L.length
        · have hlt' : (j : Int) < (L.length : Int) := by omega
          obtain ⟨b, off, s, rfl, hbl, hx, -⟩ := (HO.out.sees elSegment).lt hlt
          obtain ⟨k0, k1, k2, k3⟩ := cells4 (HO.out.sees elSegment) hx
          have HX := Lib.hid hx
          have HPw := Lib.hid (HP3.out.next HB.out)
          obtain ⟨q0, q1⟩ := HPw.out.c20
          have hSok : sOk s = true := HOK.out.1 s (by rw [← HL.out]; exact List.mem_of_getElem? hx)
          have HSK := Lib.hid (isS_at hSok)
          clear hx
          cases ho : onS (x, y) s
          · skip
            have HIO : ∀ W, Calls Tryd.prog 37 #[sV s, PtV x y] W fun e w' => e = .returned (.bool false) ∧ Below W.heap.size W w' := fun W => sIsOn_is _ _ _ _ _ _ false W ho
            have hb' : ∀ k, k < j + 1 → ∀ t, L[k]? = some t → onS (x, y) t = false := fun k hk t ht => by
              by_cases e : k = j
              · subst e; rw [HX.out] at ht; cases ht; exact ho
              · exact hon.out k (by omega) t ht
            have HON := Lib.hid hb'
            obtain ⟨N, hN⟩ : ∃ N, parC (x, y) L j = N := ⟨_, rfl⟩
            have HN := Lib.hid hN
            rw [hN]
            clear hb' ho hN
            by_cases h1 : y < s.2.1
            · by_cases h2 : y < s.2.2.2
              · skip
                have hd1 : decide (y < s.2.1) = true := decide_eq_true h1
                have hd2 : decide (y < s.2.2.2) = true := decide_eq_true h2
                have HPJ : Hid (parC (x, y) L (j + 1) = N) := Lib.hid (by rw [parC_step HX.out, if_neg (by rw [crC_no (.inl ⟨h1, h2⟩)]; decide), HN.out])
                go_wp2
                go_region_held3 (fun w' => (w'.cell? ⟨b, off + j * 4, none⟩ = some (.int .i64 s.1) ∧ w'.cell? ⟨b, off + j * 4 + 1, none⟩ = some (.int .i64 s.2.1) ∧ w'.cell? ⟨b, off + j * 4 + 2, none⟩ = some (.int .i64 s.2.2.1) ∧ w'.cell? ⟨b, off + j * 4 + 3, none⟩ = some (.int .i64 s.2.2.2)) ∧ (w'.cell? ⟨w.heap.size, 0, none⟩ = some (.int .i64 x) ∧ w'.cell? ⟨w.heap.size, 1, none⟩ = some (.int .i64 y))) (first | exact ⟨⟨k0, k1, k2, k3⟩, q0, q1⟩ | exact hQ) (first
                  | (go_at_call 37; refine (HIO _).mono ?_; rintro e w9 ⟨rfl, hb9⟩; have HB9 := Lib.hid (HB.out.drew.trans (hb9.mono HB.out.size)); have HO9 := Lib.hid ((HO.out.drew).belowAll hb9); have HP9 := Lib.hid (HPw.out.drew.next hb9); have hQ := And.intro (cells4 (HO9.out.sees elSegment) HX.out) HP9.out.c20) | fail)
                all_goals
                  obtain ⟨⟨g0, g1, g2, g3⟩, r0, r1⟩ := hQ
                  have g2' := keepA g2 (.cells #[.int .i64 s.1, .int .i64 s.2.1] 33)
                  have g3' := keepA g3 (.cells #[.int .i64 s.1, .int .i64 s.2.1] 33)
                  have r0' := keepA (keepA r0 (.cells #[.int .i64 s.1, .int .i64 s.2.1] 33)) (.cells #[.int .i64 s.2.2.1, .int .i64 s.2.2.2] 33)
                  have r1' := keepA (keepA r1 (.cells #[.int .i64 s.1, .int .i64 s.2.1] 33)) (.cells #[.int .i64 s.2.2.1, .int .i64 s.2.2.2] 33)
                  have HBE := Lib.hid ((HB9.out.alloc HB9.out.size (.cells #[.int .i64 s.1, .int .i64 s.2.1] 33)).alloc (Nat.le_trans HB9.out.size (by simp)) (.cells #[.int .i64 s.2.2.1, .int .i64 s.2.2.2] 33))
                  have HOE := Lib.hid ((HO9.out.alloc (.cells #[.int .i64 s.1, .int .i64 s.2.1] 33)).alloc (.cells #[.int .i64 s.2.2.1, .int .i64 s.2.2.2] 33))
                  have HVE := Lib.hid (Vars.of2 w9 #[.int .i64 s.1, .int .i64 s.2.1] #[.int .i64 s.2.2.1, .int .i64 s.2.2.2] 33 33)
                  go_wp2
                  go_roundw
                  case rel => exact ⟨j + 1, by omega, by rw [HPJ.out], by go_num, HON, HOE, HBE⟩
                  case measure => simp [intOf]; omega
              · skip
                have hdb : s.2.2.2 < s.2.1 := by omega
                have hd1 : decide (y < s.2.1) = true := decide_eq_true h1
                have hd2 : decide (y < s.2.2.2) = false := decide_eq_false h2
                have hdb2 : ¬ (s.2.1 < s.2.2.2) := by omega
                obtain ⟨v, hv⟩ : ∃ v, crs s.1 s.2.1 s.2.2.1 s.2.2.2 x y = v := ⟨_, rfl⟩
                have HCR : ∀ W, Calls Tryd.prog 38 #[PtV s.1 s.2.1, PtV s.2.2.1 s.2.2.2, PtV x y] W fun e w' => e = .returned (.int .i64 v) ∧ Below W.heap.size W w' := fun W => cross_is _ _ _ _ _ _ v W HSK.out.1 HSK.out.2.1 HXY.out hv
                have HCC : Hid (crC (x, y) s = decide (v < 0)) := Lib.hid (by rw [← hv]; exact crC_down h1 h2)
                clear hv
                by_cases h0 : v < 0
                · skip
                  have HPJ : Hid (parC (x, y) L (j + 1) = !N) := Lib.hid (by rw [parC_step HX.out, if_pos (by rw [HCC.out]; exact decide_eq_true h0), HN.out])
                  go_wp2
                  go_region_held3 (fun w' => (w'.cell? ⟨b, off + j * 4, none⟩ = some (.int .i64 s.1) ∧ w'.cell? ⟨b, off + j * 4 + 1, none⟩ = some (.int .i64 s.2.1) ∧ w'.cell? ⟨b, off + j * 4 + 2, none⟩ = some (.int .i64 s.2.2.1) ∧ w'.cell? ⟨b, off + j * 4 + 3, none⟩ = some (.int .i64 s.2.2.2)) ∧ (w'.cell? ⟨w.heap.size, 0, none⟩ = some (.int .i64 x) ∧ w'.cell? ⟨w.heap.size, 1, none⟩ = some (.int .i64 y))) (first | exact ⟨⟨k0, k1, k2, k3⟩, q0, q1⟩ | exact hQ) (first
                    | (go_at_call 37; refine (HIO _).mono ?_; rintro e w9 ⟨rfl, hb9⟩; have HB9 := Lib.hid (HB.out.drew.trans (hb9.mono HB.out.size)); have HO9 := Lib.hid ((HO.out.drew).belowAll hb9); have HP9 := Lib.hid (HPw.out.drew.next hb9); have hQ := And.intro (cells4 (HO9.out.sees elSegment) HX.out) HP9.out.c20) | fail)
                  all_goals
                    obtain ⟨⟨g0, g1, g2, g3⟩, r0, r1⟩ := hQ
                    have g2' := keepA g2 (.cells #[.int .i64 s.1, .int .i64 s.2.1] 33)
                    have g3' := keepA g3 (.cells #[.int .i64 s.1, .int .i64 s.2.1] 33)
                    have r0' := keepA (keepA r0 (.cells #[.int .i64 s.1, .int .i64 s.2.1] 33)) (.cells #[.int .i64 s.2.2.1, .int .i64 s.2.2.2] 33)
                    have r1' := keepA (keepA r1 (.cells #[.int .i64 s.1, .int .i64 s.2.1] 33)) (.cells #[.int .i64 s.2.2.1, .int .i64 s.2.2.2] 33)
                    have HBE := Lib.hid ((HB9.out.alloc HB9.out.size (.cells #[.int .i64 s.1, .int .i64 s.2.1] 33)).alloc (Nat.le_trans HB9.out.size (by simp)) (.cells #[.int .i64 s.2.2.1, .int .i64 s.2.2.2] 33))
                    have HOE := Lib.hid ((HO9.out.alloc (.cells #[.int .i64 s.1, .int .i64 s.2.1] 33)).alloc (.cells #[.int .i64 s.2.2.1, .int .i64 s.2.2.2] 33))
                    have HVE := Lib.hid (Vars.of2 w9 #[.int .i64 s.1, .int .i64 s.2.1] #[.int .i64 s.2.2.1, .int .i64 s.2.2.2] 33 33)
                    go_wp2_with (go_at_call 38; refine (HCR _).mono ?_; rintro e w10 ⟨rfl, hb10⟩; have HB10 := Lib.hid (HBE.out.trans (hb10.mono HBE.out.size)); have HO10 := Lib.hid (HOE.out.belowAll hb10); have HV10 := Lib.hid (HVE.out.next hb10); obtain ⟨c0, c1⟩ := HV10.out.c20; obtain ⟨c2, c3⟩ := HV10.out.c21)
                    go_roundw
                    case rel => exact ⟨j + 1, by omega, by rw [HPJ.out], by go_num, HON, HO10, HB10⟩
                    case measure => simp [intOf]; omega
                · skip
                  have HPJ : Hid (parC (x, y) L (j + 1) = N) := Lib.hid (by rw [parC_step HX.out, if_neg (by rw [HCC.out, decide_eq_false h0]; decide), HN.out])
                  go_wp2
                  go_region_held3 (fun w' => (w'.cell? ⟨b, off + j * 4, none⟩ = some (.int .i64 s.1) ∧ w'.cell? ⟨b, off + j * 4 + 1, none⟩ = some (.int .i64 s.2.1) ∧ w'.cell? ⟨b, off + j * 4 + 2, none⟩ = some (.int .i64 s.2.2.1) ∧ w'.cell? ⟨b, off + j * 4 + 3, none⟩ = some (.int .i64 s.2.2.2)) ∧ (w'.cell? ⟨w.heap.size, 0, none⟩ = some (.int .i64 x) ∧ w'.cell? ⟨w.heap.size, 1, none⟩ = some (.int .i64 y))) (first | exact ⟨⟨k0, k1, k2, k3⟩, q0, q1⟩ | exact hQ) (first
                    | (go_at_call 37; refine (HIO _).mono ?_; rintro e w9 ⟨rfl, hb9⟩; have HB9 := Lib.hid (HB.out.drew.trans (hb9.mono HB.out.size)); have HO9 := Lib.hid ((HO.out.drew).belowAll hb9); have HP9 := Lib.hid (HPw.out.drew.next hb9); have hQ := And.intro (cells4 (HO9.out.sees elSegment) HX.out) HP9.out.c20) | fail)
                  all_goals
                    obtain ⟨⟨g0, g1, g2, g3⟩, r0, r1⟩ := hQ
                    have g2' := keepA g2 (.cells #[.int .i64 s.1, .int .i64 s.2.1] 33)
                    have g3' := keepA g3 (.cells #[.int .i64 s.1, .int .i64 s.2.1] 33)
                    have r0' := keepA (keepA r0 (.cells #[.int .i64 s.1, .int .i64 s.2.1] 33)) (.cells #[.int .i64 s.2.2.1, .int .i64 s.2.2.2] 33)
                    have r1' := keepA (keepA r1 (.cells #[.int .i64 s.1, .int .i64 s.2.1] 33)) (.cells #[.int .i64 s.2.2.1, .int .i64 s.2.2.2] 33)
                    have HBE := Lib.hid ((HB9.out.alloc HB9.out.size (.cells #[.int .i64 s.1, .int .i64 s.2.1] 33)).alloc (Nat.le_trans HB9.out.size (by simp)) (.cells #[.int .i64 s.2.2.1, .int .i64 s.2.2.2] 33))
                    have HOE := Lib.hid ((HO9.out.alloc (.cells #[.int .i64 s.1, .int .i64 s.2.1] 33)).alloc (.cells #[.int .i64 s.2.2.1, .int .i64 s.2.2.2] 33))
                    have HVE := Lib.hid (Vars.of2 w9 #[.int .i64 s.1, .int .i64 s.2.1] #[.int .i64 s.2.2.1, .int .i64 s.2.2.2] 33 33)
                    go_wp2_with (go_at_call 38; refine (HCR _).mono ?_; rintro e w10 ⟨rfl, hb10⟩; have HB10 := Lib.hid (HBE.out.trans (hb10.mono HBE.out.size)); have HO10 := Lib.hid (HOE.out.belowAll hb10); have HV10 := Lib.hid (HVE.out.next hb10); obtain ⟨c0, c1⟩ := HV10.out.c20; obtain ⟨c2, c3⟩ := HV10.out.c21)
                    go_roundw
                    case rel => exact ⟨j + 1, by omega, by rw [HPJ.out], by go_num, HON, HO10, HB10⟩
                    case measure => simp [intOf]; omega
            · by_cases h2 : y < s.2.2.2
              · skip
                have hdb : s.2.1 < s.2.2.2 := by omega
                have hd1 : decide (y < s.2.1) = false := decide_eq_false h1
                have hd2 : decide (y < s.2.2.2) = true := decide_eq_true h2
                have hdb2 : ¬ (s.2.2.2 < s.2.1) := by omega
                obtain ⟨v, hv⟩ : ∃ v, crs s.1 s.2.1 s.2.2.1 s.2.2.2 x y = v := ⟨_, rfl⟩
                have HCR : ∀ W, Calls Tryd.prog 38 #[PtV s.1 s.2.1, PtV s.2.2.1 s.2.2.2, PtV x y] W fun e w' => e = .returned (.int .i64 v) ∧ Below W.heap.size W w' := fun W => cross_is _ _ _ _ _ _ v W HSK.out.1 HSK.out.2.1 HXY.out hv
                have HCC : Hid (crC (x, y) s = decide (0 < v)) := Lib.hid (by rw [← hv]; exact crC_up h1 h2)
                clear hv
                by_cases h0 : 0 < v
                · skip
                  have HPJ : Hid (parC (x, y) L (j + 1) = !N) := Lib.hid (by rw [parC_step HX.out, if_pos (by rw [HCC.out]; exact decide_eq_true h0), HN.out])
                  go_wp2
                  go_region_held3 (fun w' => (w'.cell? ⟨b, off + j * 4, none⟩ = some (.int .i64 s.1) ∧ w'.cell? ⟨b, off + j * 4 + 1, none⟩ = some (.int .i64 s.2.1) ∧ w'.cell? ⟨b, off + j * 4 + 2, none⟩ = some (.int .i64 s.2.2.1) ∧ w'.cell? ⟨b, off + j * 4 + 3, none⟩ = some (.int .i64 s.2.2.2)) ∧ (w'.cell? ⟨w.heap.size, 0, none⟩ = some (.int .i64 x) ∧ w'.cell? ⟨w.heap.size, 1, none⟩ = some (.int .i64 y))) (first | exact ⟨⟨k0, k1, k2, k3⟩, q0, q1⟩ | exact hQ) (first
                    | (go_at_call 37; refine (HIO _).mono ?_; rintro e w9 ⟨rfl, hb9⟩; have HB9 := Lib.hid (HB.out.drew.trans (hb9.mono HB.out.size)); have HO9 := Lib.hid ((HO.out.drew).belowAll hb9); have HP9 := Lib.hid (HPw.out.drew.next hb9); have hQ := And.intro (cells4 (HO9.out.sees elSegment) HX.out) HP9.out.c20) | fail)
                  all_goals
                    obtain ⟨⟨g0, g1, g2, g3⟩, r0, r1⟩ := hQ
                    have g2' := keepA g2 (.cells #[.int .i64 s.1, .int .i64 s.2.1] 33)
                    have g3' := keepA g3 (.cells #[.int .i64 s.1, .int .i64 s.2.1] 33)
                    have r0' := keepA (keepA r0 (.cells #[.int .i64 s.1, .int .i64 s.2.1] 33)) (.cells #[.int .i64 s.2.2.1, .int .i64 s.2.2.2] 33)
                    have r1' := keepA (keepA r1 (.cells #[.int .i64 s.1, .int .i64 s.2.1] 33)) (.cells #[.int .i64 s.2.2.1, .int .i64 s.2.2.2] 33)
                    have HBE := Lib.hid ((HB9.out.alloc HB9.out.size (.cells #[.int .i64 s.1, .int .i64 s.2.1] 33)).alloc (Nat.le_trans HB9.out.size (by simp)) (.cells #[.int .i64 s.2.2.1, .int .i64 s.2.2.2] 33))
                    have HOE := Lib.hid ((HO9.out.alloc (.cells #[.int .i64 s.1, .int .i64 s.2.1] 33)).alloc (.cells #[.int .i64 s.2.2.1, .int .i64 s.2.2.2] 33))
                    have HVE := Lib.hid (Vars.of2 w9 #[.int .i64 s.1, .int .i64 s.2.1] #[.int .i64 s.2.2.1, .int .i64 s.2.2.2] 33 33)
                    go_wp2_with (go_at_call 38; refine (HCR _).mono ?_; rintro e w10 ⟨rfl, hb10⟩; have HB10 := Lib.hid (HBE.out.trans (hb10.mono HBE.out.size)); have HO10 := Lib.hid (HOE.out.belowAll hb10); have HV10 := Lib.hid (HVE.out.next hb10); obtain ⟨c0, c1⟩ := HV10.out.c20; obtain ⟨c2, c3⟩ := HV10.out.c21)
                    go_roundw
                    case rel => exact ⟨j + 1, by omega, by rw [HPJ.out], by go_num, HON, HO10, HB10⟩
                    case measure => simp [intOf]; omega
                · skip
                  have HPJ : Hid (parC (x, y) L (j + 1) = N) := Lib.hid (by rw [parC_step HX.out, if_neg (by rw [HCC.out, decide_eq_false h0]; decide), HN.out])
                  go_wp2
                  go_region_held3 (fun w' => (w'.cell? ⟨b, off + j * 4, none⟩ = some (.int .i64 s.1) ∧ w'.cell? ⟨b, off + j * 4 + 1, none⟩ = some (.int .i64 s.2.1) ∧ w'.cell? ⟨b, off + j * 4 + 2, none⟩ = some (.int .i64 s.2.2.1) ∧ w'.cell? ⟨b, off + j * 4 + 3, none⟩ = some (.int .i64 s.2.2.2)) ∧ (w'.cell? ⟨w.heap.size, 0, none⟩ = some (.int .i64 x) ∧ w'.cell? ⟨w.heap.size, 1, none⟩ = some (.int .i64 y))) (first | exact ⟨⟨k0, k1, k2, k3⟩, q0, q1⟩ | exact hQ) (first
                    | (go_at_call 37; refine (HIO _).mono ?_; rintro e w9 ⟨rfl, hb9⟩; have HB9 := Lib.hid (HB.out.drew.trans (hb9.mono HB.out.size)); have HO9 := Lib.hid ((HO.out.drew).belowAll hb9); have HP9 := Lib.hid (HPw.out.drew.next hb9); have hQ := And.intro (cells4 (HO9.out.sees elSegment) HX.out) HP9.out.c20) | fail)
                  all_goals
                    obtain ⟨⟨g0, g1, g2, g3⟩, r0, r1⟩ := hQ
                    have g2' := keepA g2 (.cells #[.int .i64 s.1, .int .i64 s.2.1] 33)
                    have g3' := keepA g3 (.cells #[.int .i64 s.1, .int .i64 s.2.1] 33)
                    have r0' := keepA (keepA r0 (.cells #[.int .i64 s.1, .int .i64 s.2.1] 33)) (.cells #[.int .i64 s.2.2.1, .int .i64 s.2.2.2] 33)
                    have r1' := keepA (keepA r1 (.cells #[.int .i64 s.1, .int .i64 s.2.1] 33)) (.cells #[.int .i64 s.2.2.1, .int .i64 s.2.2.2] 33)
                    have HBE := Lib.hid ((HB9.out.alloc HB9.out.size (.cells #[.int .i64 s.1, .int .i64 s.2.1] 33)).alloc (Nat.le_trans HB9.out.size (by simp)) (.cells #[.int .i64 s.2.2.1, .int .i64 s.2.2.2] 33))
                    have HOE := Lib.hid ((HO9.out.alloc (.cells #[.int .i64 s.1, .int .i64 s.2.1] 33)).alloc (.cells #[.int .i64 s.2.2.1, .int .i64 s.2.2.2] 33))
                    have HVE := Lib.hid (Vars.of2 w9 #[.int .i64 s.1, .int .i64 s.2.1] #[.int .i64 s.2.2.1, .int .i64 s.2.2.2] 33 33)
                    go_wp2_with (go_at_call 38; refine (HCR _).mono ?_; rintro e w10 ⟨rfl, hb10⟩; have HB10 := Lib.hid (HBE.out.trans (hb10.mono HBE.out.size)); have HO10 := Lib.hid (HOE.out.belowAll hb10); have HV10 := Lib.hid (HVE.out.next hb10); obtain ⟨c0, c1⟩ := HV10.out.c20; obtain ⟨c2, c3⟩ := HV10.out.c21)
                    go_roundw
                    case rel => exact ⟨j + 1, by omega, by rw [HPJ.out], by go_num, HON, HO10, HB10⟩
                    case measure => simp [intOf]; omega
              · skip
                have hd1 : decide (y < s.2.1) = false := decide_eq_false h1
                have hd2 : decide (y < s.2.2.2) = false := decide_eq_false h2
                have HPJ : Hid (parC (x, y) L (j + 1) = N) := Lib.hid (by rw [parC_step HX.out, if_neg (by rw [crC_no (.inr ⟨h1, h2⟩)]; decide), HN.out])
                go_wp2
                go_region_held3 (fun w' => (w'.cell? ⟨b, off + j * 4, none⟩ = some (.int .i64 s.1) ∧ w'.cell? ⟨b, off + j * 4 + 1, none⟩ = some (.int .i64 s.2.1) ∧ w'.cell? ⟨b, off + j * 4 + 2, none⟩ = some (.int .i64 s.2.2.1) ∧ w'.cell? ⟨b, off + j * 4 + 3, none⟩ = some (.int .i64 s.2.2.2)) ∧ (w'.cell? ⟨w.heap.size, 0, none⟩ = some (.int .i64 x) ∧ w'.cell? ⟨w.heap.size, 1, none⟩ = some (.int .i64 y))) (first | exact ⟨⟨k0, k1, k2, k3⟩, q0, q1⟩ | exact hQ) (first
                  | (go_at_call 37; refine (HIO _).mono ?_; rintro e w9 ⟨rfl, hb9⟩; have HB9 := Lib.hid (HB.out.drew.trans (hb9.mono HB.out.size)); have HO9 := Lib.hid ((HO.out.drew).belowAll hb9); have HP9 := Lib.hid (HPw.out.drew.next hb9); have hQ := And.intro (cells4 (HO9.out.sees elSegment) HX.out) HP9.out.c20) | fail)
                all_goals
                  obtain ⟨⟨g0, g1, g2, g3⟩, r0, r1⟩ := hQ
                  have g2' := keepA g2 (.cells #[.int .i64 s.1, .int .i64 s.2.1] 33)
                  have g3' := keepA g3 (.cells #[.int .i64 s.1, .int .i64 s.2.1] 33)
                  have r0' := keepA (keepA r0 (.cells #[.int .i64 s.1, .int .i64 s.2.1] 33)) (.cells #[.int .i64 s.2.2.1, .int .i64 s.2.2.2] 33)
                  have r1' := keepA (keepA r1 (.cells #[.int .i64 s.1, .int .i64 s.2.1] 33)) (.cells #[.int .i64 s.2.2.1, .int .i64 s.2.2.2] 33)
                  have HBE := Lib.hid ((HB9.out.alloc HB9.out.size (.cells #[.int .i64 s.1, .int .i64 s.2.1] 33)).alloc (Nat.le_trans HB9.out.size (by simp)) (.cells #[.int .i64 s.2.2.1, .int .i64 s.2.2.2] 33))
                  have HOE := Lib.hid ((HO9.out.alloc (.cells #[.int .i64 s.1, .int .i64 s.2.1] 33)).alloc (.cells #[.int .i64 s.2.2.1, .int .i64 s.2.2.2] 33))
                  have HVE := Lib.hid (Vars.of2 w9 #[.int .i64 s.1, .int .i64 s.2.1] #[.int .i64 s.2.2.1, .int .i64 s.2.2.2] 33 33)
                  go_wp2
                  go_roundw
                  case rel => exact ⟨j + 1, by omega, by rw [HPJ.out], by go_num, HON, HOE, HBE⟩
                  case measure => simp [intOf]; omega
          · obtain rfl : z = true := by rw [← HV.out]; exact inC_on hz hp (by rw [← HL.out]; exact HX.out) ho
            go_wp2
            go_region_held3 (fun w' => (w'.cell? ⟨b, off + j * 4, none⟩ = some (.int .i64 s.1) ∧ w'.cell? ⟨b, off + j * 4 + 1, none⟩ = some (.int .i64 s.2.1) ∧ w'.cell? ⟨b, off + j * 4 + 2, none⟩ = some (.int .i64 s.2.2.1) ∧ w'.cell? ⟨b, off + j * 4 + 3, none⟩ = some (.int .i64 s.2.2.2)) ∧ (w'.cell? ⟨w.heap.size, 0, none⟩ = some (.int .i64 x) ∧ w'.cell? ⟨w.heap.size, 1, none⟩ = some (.int .i64 y))) (first | exact ⟨⟨k0, k1, k2, k3⟩, q0, q1⟩ | exact hQ) (first
              | (go_at_call 37; refine (sIsOn_is _ _ _ _ _ _ true _ ho).mono ?_; rintro e w9 ⟨rfl, hb9⟩; have HB9 := Lib.hid (HB.out.drew.trans (hb9.mono HB.out.size)); have HO9 := Lib.hid ((HO.out.drew).belowAll hb9); have HP9 := Lib.hid (HPw.out.drew.next hb9); have hQ := And.intro (cells4 (HO9.out.sees elSegment) HX.out) HP9.out.c20) | fail)
            all_goals
              go_wp2
              go_ret
              exact ⟨rfl, HB3.out.trans (HB9.out.mono HB3.out.size)⟩
        · obtain rfl : j = L.length := by omega
          obtain rfl : parC (x, y) L L.length = z := by rw [← HV.out, HL.out]; exact (inC_end hz hp (by rw [← HL.out]; exact hon.out)).symm
          go_wp2
          go_ret
          exact ⟨rfl, HB3.out.trans (HB.out.mono HB3.out.size)⟩
end Go.Proofs.YtbnjaaegbmhopaaDoor
