/- The exact laws of lines whose results hold no memory. -/
import Derived.Test.YtkeljibnjpinlaaLineR
import Derived.Test.YtkeljibnjpinlaaLineK
import Derived.Test.YtkeljibnjpinlaaLineN
import Derived.Test.YtkeljibnjpinlaaOpenPts
namespace Go.Proofs.Ytkeljibnjpinlaa
open Go.ChangeShapes Go.WideShapes Go.ChangeAt Go.RowKit
set_option linter.unusedVariables false


set_option maxRecDepth 100000 in
set_option maxHeartbeats 1000000 in
theorem law_FnExactIsSimple (pa0 : Option Addr) (len0 cap0 : Nat) (l0 : List (Int × Int)) (w : World) (ws0 : ShowsP w pa0 len0 l0) :
    Calls Try.prog 4 #[.slice pa0 len0 cap0] w fun e w' => e = .returned (.bool true) ∧ Below w.heap.size w w' := by
  obtain ⟨rfl, hs0, hm0⟩ := ws0
  have HS0 := Lib.hid hs0; clear hs0
  obtain ⟨z, hz⟩ : ∃ z, smpV l0 = z := ⟨_, rfl⟩
  go_enter Try.func4, Try.ntmps4
  have hl0 : (0 : Int) ≤ 1048576 := by omega
  by_cases hc0 : (l0.length : Int) ≤ 1048576
  · skip
    go_wp2_with fail
    refine (szPointS_yes pa0 l0.length cap0 (1048576) w hc0 (by omega)).mono ?_
    rintro e w9 ⟨rfl, rfl⟩
    have hlt0 : ¬ (1048576 - (l0.length : Int) < 0) := by omega
    have HB := Lib.hid (Below.refl w.heap.size w)
    go_wp2_with fail
    refine (toPointS_any pa0 cap0 l0 w ((HS0.out.below HB.out).mono HB.out.size) (by omega)).mono ?_
    rintro e w1 ⟨A1, c1, L1, hL1, rfl, ho1, hb1⟩
    have e1 : l0 = L1 := hL1.out.symm
    subst e1
    have HB := Lib.hid (HB.out.trans (hb1.mono HB.out.size))
    clear hb1
    have HO1 := Lib.hid ho1; clear ho1
    go_wp2_with fail
    refine (sIsSimple_is A1 c1 _ w1 (HO1.out.sees elPoint) (by omega) z hz).mono ?_
    rintro e w2 ⟨rfl, hb2⟩
    have HO1 := Lib.hid (HO1.out.belowAll hb2)
    have HB := Lib.hid (HB.out.trans (hb2.mono HB.out.size))
    clear hb2
    go_wp2_with fail
    refine (toPointS_any pa0 cap0 l0 w2 ((HS0.out.below HB.out).mono HB.out.size) (by omega)).mono ?_
    rintro e w3 ⟨A3, c3, L3, hL3, rfl, ho3, hb3⟩
    have e3 : l0 = L3 := hL3.out.symm
    subst e3
    have HO1 := Lib.hid (HO1.out.belowAll hb3)
    have HB := Lib.hid (HB.out.trans (hb3.mono HB.out.size))
    clear hb3
    have HO3 := Lib.hid ho3; clear ho3
    go_wp2_with fail
    refine (isSimple_is A3 c3 _ w3 (HO3.out.sees elPoint) (by omega) z hz).mono ?_
    rintro e w4 ⟨rfl, hb4⟩
    have HO1 := Lib.hid (HO1.out.belowAll hb4)
    have HO3 := Lib.hid (HO3.out.belowAll hb4)
    have HB := Lib.hid (HB.out.trans (hb4.mono HB.out.size))
    clear hb4
    go_wp2_with fail
    refine (toPointS_any pa0 cap0 l0 w4 ((HS0.out.below HB.out).mono HB.out.size) (by omega)).mono ?_
    rintro e w5 ⟨A5, c5, L5, hL5, rfl, ho5, hb5⟩
    have e5 : l0 = L5 := hL5.out.symm
    subst e5
    have HO1 := Lib.hid (HO1.out.belowAll hb5)
    have HO3 := Lib.hid (HO3.out.belowAll hb5)
    have HB := Lib.hid (HB.out.trans (hb5.mono HB.out.size))
    clear hb5
    have HO5 := Lib.hid ho5; clear ho5
    go_wp2_with fail
    refine (eqPointS_yes A3 A5 c3 c5 _ _ w5 (HO3.out.sees elPoint) (HO5.out.sees elPoint) rfl (by omega)).mono ?_
    rintro e w6 ⟨rfl, hb6⟩
    have HO1 := Lib.hid (HO1.out.belowAll hb6)
    have HO3 := Lib.hid (HO3.out.belowAll hb6)
    have HO5 := Lib.hid (HO5.out.belowAll hb6)
    have HB := Lib.hid (HB.out.trans (hb6.mono HB.out.size))
    clear hb6
    go_wp2
    go_ret
    exact ⟨rfl, HB.out⟩
  · go_wp2_with fail
    refine (szPointS_no pa0 l0.length cap0 (1048576) w (by omega) (by omega) hm0).mono ?_
    rintro e w9 ⟨rfl, rfl⟩
    go_wp2
    go_ret
    exact ⟨rfl, Below.refl _ _⟩




end Go.Proofs.Ytkeljibnjpinlaa
