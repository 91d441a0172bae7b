/- The exact laws of lines whose results hold no memory. -/
import Derived.Test.YtbnjaaegbmhopaaLineR
import Derived.Test.YtbnjaaegbmhopaaLineK
import Derived.Test.YtbnjaaegbmhopaaLineN
import Derived.Test.YtbnjaaegbmhopaaOpenPts
namespace Go.Proofs.Ytbnjaaegbmhopaa
open Go.ChangeShapes Go.WideShapes Go.ChangeAt Go.RowKit
set_option linter.unusedVariables false


set_option maxRecDepth 100000 in
set_option maxHeartbeats 1000000 in
theorem law_FnExactIsSimple (pa0 : Option Addr) (len0 cap0 : Nat) (l0 : List (Int × Int)) (w : World) (ws0 : ShowsP w pa0 len0 l0) :
    Calls Try.prog 11 #[.slice pa0 len0 cap0] w fun e w' => e = .returned (.bool true) ∧ Below w.heap.size w w' := by
  obtain ⟨rfl, hs0, hm0⟩ := ws0
  have HS0 := Lib.hid hs0; clear hs0
  obtain ⟨z, hz⟩ : ∃ z, smpV l0 = z := ⟨_, rfl⟩
  go_enter Try.func11, Try.ntmps11
  have hl0 : (0 : Int) ≤ 1048576 := by omega
  by_cases hc0 : (l0.length : Int) ≤ 1048576
  · skip
    go_wp2_with fail
    refine (szPointS_yes pa0 l0.length cap0 (1048576) w hc0 (by omega)).mono ?_
    rintro e w9 ⟨rfl, rfl⟩
    have hlt0 : ¬ (1048576 - (l0.length : Int) < 0) := by omega
    have HB := Lib.hid (Below.refl w.heap.size w)
    go_wp2_with fail
    refine (toPointS_any pa0 cap0 l0 w ((HS0.out.below HB.out).mono HB.out.size) (by omega)).mono ?_
    rintro e w1 ⟨A1, c1, L1, hL1, rfl, ho1, hb1⟩
    have e1 : l0 = L1 := hL1.out.symm
    subst e1
    have HB := Lib.hid (HB.out.trans (hb1.mono HB.out.size))
    clear hb1
    have HO1 := Lib.hid ho1; clear ho1
    go_wp2_with fail
    refine (sIsSimple_is A1 c1 _ w1 (HO1.out.sees elPoint) (by omega) z hz).mono ?_
    rintro e w2 ⟨rfl, hb2⟩
    have HO1 := Lib.hid (HO1.out.belowAll hb2)
    have HB := Lib.hid (HB.out.trans (hb2.mono HB.out.size))
    clear hb2
    go_wp2_with fail
    refine (toPointS_any pa0 cap0 l0 w2 ((HS0.out.below HB.out).mono HB.out.size) (by omega)).mono ?_
    rintro e w3 ⟨A3, c3, L3, hL3, rfl, ho3, hb3⟩
    have e3 : l0 = L3 := hL3.out.symm
    subst e3
    have HO1 := Lib.hid (HO1.out.belowAll hb3)
    have HB := Lib.hid (HB.out.trans (hb3.mono HB.out.size))
    clear hb3
    have HO3 := Lib.hid ho3; clear ho3
    go_wp2_with fail
    refine (isSimple_is A3 c3 _ w3 (HO3.out.sees elPoint) (by omega) z hz).mono ?_
    rintro e w4 ⟨rfl, hb4⟩
    have HO1 := Lib.hid (HO1.out.belowAll hb4)
    have HO3 := Lib.hid (HO3.out.belowAll hb4)
    have HB := Lib.hid (HB.out.trans (hb4.mono HB.out.size))
    clear hb4
    go_wp2_with fail
    refine (toPointS_any pa0 cap0 l0 w4 ((HS0.out.below HB.out).mono HB.out.size) (by omega)).mono ?_
    rintro e w5 ⟨A5, c5, L5, hL5, rfl, ho5, hb5⟩
    have e5 : l0 = L5 := hL5.out.symm
    subst e5
    have HO1 := Lib.hid (HO1.out.belowAll hb5)
    have HO3 := Lib.hid (HO3.out.belowAll hb5)
    have HB := Lib.hid (HB.out.trans (hb5.mono HB.out.size))
    clear hb5
    have HO5 := Lib.hid ho5; clear ho5
    go_wp2_with fail
    refine (eqPointS_yes A3 A5 c3 c5 _ _ w5 (HO3.out.sees elPoint) (HO5.out.sees elPoint) rfl (by omega)).mono ?_
    rintro e w6 ⟨rfl, hb6⟩
    have HO1 := Lib.hid (HO1.out.belowAll hb6)
    have HO3 := Lib.hid (HO3.out.belowAll hb6)
    have HO5 := Lib.hid (HO5.out.belowAll hb6)
    have HB := Lib.hid (HB.out.trans (hb6.mono HB.out.size))
    clear hb6
    go_wp2
    go_ret
    exact ⟨rfl, HB.out⟩
  · go_wp2_with fail
    refine (szPointS_no pa0 l0.length cap0 (1048576) w (by omega) (by omega) hm0).mono ?_
    rintro e w9 ⟨rfl, rfl⟩
    go_wp2
    go_ret
    exact ⟨rfl, Below.refl _ _⟩


set_option maxRecDepth 100000 in
set_option maxHeartbeats 1000000 in
theorem law_FnExactLinesMeet (pa0 : Option Addr) (len0 cap0 : Nat) (l0 : List (Int × Int)) (pa1 : Option Addr) (len1 cap1 : Nat) (l1 : List (Int × Int)) (w : World) (ws0 : ShowsP w pa0 len0 l0) (ws1 : ShowsP w pa1 len1 l1) :
    Calls Try.prog 12 #[.slice pa0 len0 cap0, .slice pa1 len1 cap1] w fun e w' => e = .returned (.bool true) ∧ Below w.heap.size w w' := by
  obtain ⟨rfl, hs0, hm0⟩ := ws0
  have HS0 := Lib.hid hs0; clear hs0
  obtain ⟨rfl, hs1, hm1⟩ := ws1
  have HS1 := Lib.hid hs1; clear hs1
  obtain ⟨z, hz⟩ : ∃ z, mtV (sgV l0) (sgV l1) = z := ⟨_, rfl⟩
  go_enter Try.func12, Try.ntmps12
  have hl0 : (0 : Int) ≤ 1048576 := by omega
  by_cases hc0 : (l0.length : Int) ≤ 1048576
  · skip
    go_wp2_with fail
    refine (szPointS_yes pa0 l0.length cap0 (1048576) w hc0 (by omega)).mono ?_
    rintro e w9 ⟨rfl, rfl⟩
    have hlt0 : ¬ (1048576 - (l0.length : Int) < 0) := by omega
    have hl1 : (0 : Int) ≤ 1048576 - (l0.length : Int) := by omega
    by_cases hc1 : (l1.length : Int) ≤ 1048576 - (l0.length : Int)
    · skip
      go_wp2_with fail
      refine (szPointS_yes pa1 l1.length cap1 (1048576 - (l0.length : Int)) w hc1 (by omega)).mono ?_
      rintro e w9 ⟨rfl, rfl⟩
      have hlt1 : ¬ (1048576 - (l0.length : Int) - (l1.length : Int) < 0) := by omega
      have HB := Lib.hid (Below.refl w.heap.size w)
      go_wp2_with fail
      refine (toPointS_any pa0 cap0 l0 w ((HS0.out.below HB.out).mono HB.out.size) (by omega)).mono ?_
      rintro e w1 ⟨A1, c1, L1, hL1, rfl, ho1, hb1⟩
      have e1 : l0 = L1 := hL1.out.symm
      subst e1
      have HB := Lib.hid (HB.out.trans (hb1.mono HB.out.size))
      clear hb1
      have HO1 := Lib.hid ho1; clear ho1
      go_wp2_with fail
      refine (toPointS_any pa1 cap1 l1 w1 ((HS1.out.below HB.out).mono HB.out.size) (by omega)).mono ?_
      rintro e w2 ⟨A2, c2, L2, hL2, rfl, ho2, hb2⟩
      have e2 : l1 = L2 := hL2.out.symm
      subst e2
      have HO1 := Lib.hid (HO1.out.belowAll hb2)
      have HB := Lib.hid (HB.out.trans (hb2.mono HB.out.size))
      clear hb2
      have HO2 := Lib.hid ho2; clear ho2
      go_wp2_with fail
      refine (sLinesMeet_is A1 A2 c1 c2 _ _ w2 (HO1.out.sees elPoint) (HO2.out.sees elPoint) (by omega) (by omega) z hz).mono ?_
      rintro e w3 ⟨rfl, hb3⟩
      have HO1 := Lib.hid (HO1.out.belowAll hb3)
      have HO2 := Lib.hid (HO2.out.belowAll hb3)
      have HB := Lib.hid (HB.out.trans (hb3.mono HB.out.size))
      clear hb3
      go_wp2_with fail
      refine (toPointS_any pa0 cap0 l0 w3 ((HS0.out.below HB.out).mono HB.out.size) (by omega)).mono ?_
      rintro e w4 ⟨A4, c4, L4, hL4, rfl, ho4, hb4⟩
      have e4 : l0 = L4 := hL4.out.symm
      subst e4
      have HO1 := Lib.hid (HO1.out.belowAll hb4)
      have HO2 := Lib.hid (HO2.out.belowAll hb4)
      have HB := Lib.hid (HB.out.trans (hb4.mono HB.out.size))
      clear hb4
      have HO4 := Lib.hid ho4; clear ho4
      go_wp2_with fail
      refine (toPointS_any pa1 cap1 l1 w4 ((HS1.out.below HB.out).mono HB.out.size) (by omega)).mono ?_
      rintro e w5 ⟨A5, c5, L5, hL5, rfl, ho5, hb5⟩
      have e5 : l1 = L5 := hL5.out.symm
      subst e5
      have HO1 := Lib.hid (HO1.out.belowAll hb5)
      have HO2 := Lib.hid (HO2.out.belowAll hb5)
      have HO4 := Lib.hid (HO4.out.belowAll hb5)
      have HB := Lib.hid (HB.out.trans (hb5.mono HB.out.size))
      clear hb5
      have HO5 := Lib.hid ho5; clear ho5
      go_wp2_with fail
      refine (linesMeet_is A4 A5 c4 c5 _ _ w5 (HO4.out.sees elPoint) (HO5.out.sees elPoint) (by omega) (by omega) z hz).mono ?_
      rintro e w6 ⟨rfl, hb6⟩
      have HO1 := Lib.hid (HO1.out.belowAll hb6)
      have HO2 := Lib.hid (HO2.out.belowAll hb6)
      have HO4 := Lib.hid (HO4.out.belowAll hb6)
      have HO5 := Lib.hid (HO5.out.belowAll hb6)
      have HB := Lib.hid (HB.out.trans (hb6.mono HB.out.size))
      clear hb6
      go_wp2_with fail
      refine (toPointS_any pa0 cap0 l0 w6 ((HS0.out.below HB.out).mono HB.out.size) (by omega)).mono ?_
      rintro e w7 ⟨A7, c7, L7, hL7, rfl, ho7, hb7⟩
      have e7 : l0 = L7 := hL7.out.symm
      subst e7
      have HO1 := Lib.hid (HO1.out.belowAll hb7)
      have HO2 := Lib.hid (HO2.out.belowAll hb7)
      have HO4 := Lib.hid (HO4.out.belowAll hb7)
      have HO5 := Lib.hid (HO5.out.belowAll hb7)
      have HB := Lib.hid (HB.out.trans (hb7.mono HB.out.size))
      clear hb7
      have HO7 := Lib.hid ho7; clear ho7
      go_wp2_with fail
      refine (eqPointS_yes A4 A7 c4 c7 _ _ w7 (HO4.out.sees elPoint) (HO7.out.sees elPoint) rfl (by omega)).mono ?_
      rintro e w8 ⟨rfl, hb8⟩
      have HO1 := Lib.hid (HO1.out.belowAll hb8)
      have HO2 := Lib.hid (HO2.out.belowAll hb8)
      have HO4 := Lib.hid (HO4.out.belowAll hb8)
      have HO5 := Lib.hid (HO5.out.belowAll hb8)
      have HO7 := Lib.hid (HO7.out.belowAll hb8)
      have HB := Lib.hid (HB.out.trans (hb8.mono HB.out.size))
      clear hb8
      go_wp2_with fail
      refine (toPointS_any pa1 cap1 l1 w8 ((HS1.out.below HB.out).mono HB.out.size) (by omega)).mono ?_
      rintro e w9 ⟨A9, c9, L9, hL9, rfl, ho9, hb9⟩
      have e9 : l1 = L9 := hL9.out.symm
      subst e9
      have HO1 := Lib.hid (HO1.out.belowAll hb9)
      have HO2 := Lib.hid (HO2.out.belowAll hb9)
      have HO4 := Lib.hid (HO4.out.belowAll hb9)
      have HO5 := Lib.hid (HO5.out.belowAll hb9)
      have HO7 := Lib.hid (HO7.out.belowAll hb9)
      have HB := Lib.hid (HB.out.trans (hb9.mono HB.out.size))
      clear hb9
      have HO9 := Lib.hid ho9; clear ho9
      go_wp2_with fail
      refine (eqPointS_yes A5 A9 c5 c9 _ _ w9 (HO5.out.sees elPoint) (HO9.out.sees elPoint) rfl (by omega)).mono ?_
      rintro e w10 ⟨rfl, hb10⟩
      have HO1 := Lib.hid (HO1.out.belowAll hb10)
      have HO2 := Lib.hid (HO2.out.belowAll hb10)
      have HO4 := Lib.hid (HO4.out.belowAll hb10)
      have HO5 := Lib.hid (HO5.out.belowAll hb10)
      have HO7 := Lib.hid (HO7.out.belowAll hb10)
      have HO9 := Lib.hid (HO9.out.belowAll hb10)
      have HB := Lib.hid (HB.out.trans (hb10.mono HB.out.size))
      clear hb10
      go_wp2
      go_ret
      exact ⟨rfl, HB.out⟩
    · go_wp2_with fail
      refine (szPointS_no pa1 l1.length cap1 (1048576 - (l0.length : Int)) w (by omega) (by omega) hm1).mono ?_
      rintro e w9 ⟨rfl, rfl⟩
      go_wp2
      go_ret
      exact ⟨rfl, Below.refl _ _⟩
  · go_wp2_with fail
    refine (szPointS_no pa0 l0.length cap0 (1048576) w (by omega) (by omega) hm0).mono ?_
    rintro e w9 ⟨rfl, rfl⟩
    go_wp2
    go_ret
    exact ⟨rfl, Below.refl _ _⟩


end Go.Proofs.Ytbnjaaegbmhopaa
