/- The exact laws of lines whose result is a slice. -/
import Derived.Test.YtjnbdbgkecfkcaaLineR
import Derived.Test.YtjnbdbgkecfkcaaLineL
import Derived.Test.YtjnbdbgkecfkcaaLineS2
import Derived.Test.YtjnbdbgkecfkcaaOpenPts
import Derived.Test.YtjnbdbgkecfkcaaHelpM
namespace Go.Proofs.Ytjnbdbgkecfkcaa
open Go.ChangeShapes Go.WideShapes Go.ChangeAt Go.RowKit
set_option linter.unusedVariables false

set_option maxRecDepth 100000 in
set_option maxHeartbeats 4000000 in
theorem law_FnExactSegmentsOf (pa0 : Option Addr) (len0 cap0 : Nat) (l0 : List (Int × Int)) (w : World) (ws0 : ShowsP w pa0 len0 l0) :
    Calls Try.prog 11 #[.slice pa0 len0 cap0] w fun e w' => e = .returned (.bool true) ∧ Below w.heap.size w w' := by
  obtain ⟨rfl, hs0, hm0⟩ := ws0
  have HS0 := Lib.hid hs0; clear hs0
  go_enter Try.func11, Try.ntmps11
  by_cases hc0 : (l0.length : Int) ≤ 1048576
  · skip
    go_wp2_with fail
    refine (szPointS_yes pa0 l0.length cap0 1048576 w hc0 (by omega)).mono ?_
    rintro e w9 ⟨rfl, rfl⟩
    have hlt0 : ¬ ((1048576 : Int) - (l0.length : Int) < 0) := by omega
    have hlb0 : l0.length ≤ 1048576 := by omega
    have HB := Lib.hid (Below.refl w.heap.size w)
    have hlot : w.heap.size ≤ w.heap.size := HB.out.size
    go_wp2_with fail
    refine (toPointS_any pa0 cap0 l0 w ((HS0.out.below HB.out).mono HB.out.size) (by omega)).mono ?_
    rintro e wn1 ⟨At, ct, Lt, HLt, rfl, hot, hbt⟩
    have et : l0 = Lt := HLt.out.symm
    subst et
    have hzwn1 := hbt.size
    have HB := Lib.hid (HB.out.trans (hbt.mono HB.out.size))
    clear hbt
    have HOt := Lib.hid hot.held; clear hot
    have hloS : w.heap.size ≤ wn1.heap.size := HB.out.size
    go_wp2_with fail
    refine (sSegmentsOf_any At ct l0 wn1 (HOt.out.seesAll elPoint) (by omega)).mono ?_
    rintro e wn2 ⟨AS, cS, LS, HLS, rfl, hoS, hbS⟩
    have hnS : LS.length ≤ 1048576 := by rw [HLS.out]; have := sgV_len l0; omega
    have hzwn2 := hbS.size
    have HB := Lib.hid (HB.out.trans (hbS.mono HB.out.size))
    have HOt := Lib.hid (HOt.out.belowAll hbS)
    clear hbS
    have HOS := Lib.hid hoS.held; clear hoS
    have hlox : w.heap.size ≤ wn2.heap.size := HB.out.size
    go_wp2_with fail
    refine (toPointS_any pa0 cap0 l0 wn2 ((HS0.out.below HB.out).mono HB.out.size) (by omega)).mono ?_
    rintro e wn3 ⟨Ax, cx, Lx, HLx, rfl, hox, hbx⟩
    have ex : l0 = Lx := HLx.out.symm
    subst ex
    have hzwn3 := hbx.size
    have HB := Lib.hid (HB.out.trans (hbx.mono HB.out.size))
    have HOt := Lib.hid (HOt.out.belowAll hbx)
    have HOS := Lib.hid (HOS.out.belowAll hbx)
    clear hbx
    have HOx := Lib.hid hox.held; clear hox
    have hloG : w.heap.size ≤ wn3.heap.size := HB.out.size
    go_wp2_with fail
    refine (segmentsOf_any Ax cx l0 wn3 (HOx.out.seesAll elPoint) (by omega)).mono ?_
    rintro e wn4 ⟨AG, cG, LG, HLG, rfl, hoG, hbG⟩
    have hnG : LG.length ≤ 1048576 := by rw [HLG.out]; have := sgV_len l0; omega
    have hzwn4 := hbG.size
    have HB := Lib.hid (HB.out.trans (hbG.mono HB.out.size))
    have HOt := Lib.hid (HOt.out.belowAll hbG)
    have HOS := Lib.hid (HOS.out.belowAll hbG)
    have HOx := Lib.hid (HOx.out.belowAll hbG)
    clear hbG
    have HOG := Lib.hid hoG.held; clear hoG
    go_wp2_with fail
    refine (eqSegmentS_yes AG AS cG cS LG LS wn4 (HOG.out.seesAll elSegment) (HOS.out.seesAll elSegment) (HLG.out.trans HLS.out.symm) (by omega)).mono ?_
    rintro e wn5 ⟨rfl, hbn5⟩
    have hzwn5 := hbn5.size
    have HB := Lib.hid (HB.out.trans (hbn5.mono HB.out.size))
    have HOt := Lib.hid (HOt.out.belowAll hbn5)
    have HOS := Lib.hid (HOS.out.belowAll hbn5)
    have HOx := Lib.hid (HOx.out.belowAll hbn5)
    have HOG := Lib.hid (HOG.out.belowAll hbn5)
    clear hbn5
    have hloy : w.heap.size ≤ wn5.heap.size := HB.out.size
    go_wp2_with fail
    refine (toPointS_any pa0 cap0 l0 wn5 ((HS0.out.below HB.out).mono HB.out.size) (by omega)).mono ?_
    rintro e wn6 ⟨Ay, cy, Ly, HLy, rfl, hoy, hby⟩
    have ey : l0 = Ly := HLy.out.symm
    subst ey
    have hzwn6 := hby.size
    have HB := Lib.hid (HB.out.trans (hby.mono HB.out.size))
    have HOt := Lib.hid (HOt.out.belowAll hby)
    have HOS := Lib.hid (HOS.out.belowAll hby)
    have HOx := Lib.hid (HOx.out.belowAll hby)
    have HOG := Lib.hid (HOG.out.belowAll hby)
    clear hby
    have HOy := Lib.hid hoy.held; clear hoy
    go_wp2_with fail
    refine (eqPointS_yes Ax Ay cx cy l0 l0 wn6 (HOx.out.seesAll elPoint) (HOy.out.seesAll elPoint) (rfl) (by omega)).mono ?_
    rintro e wn7 ⟨rfl, hbn7⟩
    have hzwn7 := hbn7.size
    have HB := Lib.hid (HB.out.trans (hbn7.mono HB.out.size))
    have HOt := Lib.hid (HOt.out.belowAll hbn7)
    have HOS := Lib.hid (HOS.out.belowAll hbn7)
    have HOx := Lib.hid (HOx.out.belowAll hbn7)
    have HOG := Lib.hid (HOG.out.belowAll hbn7)
    have HOy := Lib.hid (HOy.out.belowAll hbn7)
    clear hbn7
    clear HOt HOy
    go_wp2_with fail
    refine (markPoint_held Ax l0.length cx 1 _ _ l0 wn7 HOx.out rfl (by omega) (by omega)).mono ?_
    rintro e wn8 ⟨k, Hk, rfl, hon8, hgn8⟩
    have HB := Lib.hid (belowE_mark HB.out HOx.out hlox hgn8 HB.out.size)
    have HOS := Lib.hid (HOS.out.kept HOx.out (by omega) hgn8)
    have HOG := Lib.hid (HOG.out.kept HOx.out (by omega) hgn8)
    have HOx := Lib.hid hon8; have hzwn8 := hgn8.size; clear hon8 hgn8
    go_wp2_with fail
    refine (eqSegmentS_yes AG AS cG cS LG LS wn8 (HOG.out.seesAll elSegment) (HOS.out.seesAll elSegment) (HLG.out.trans HLS.out.symm) (by omega)).mono ?_
    rintro e wn9 ⟨rfl, hbn9⟩
    have hzwn9 := hbn9.size
    have HB := Lib.hid (HB.out.trans (hbn9.mono HB.out.size))
    have HOS := Lib.hid (HOS.out.belowAll hbn9)
    have HOx := Lib.hid (HOx.out.belowAll hbn9)
    have HOG := Lib.hid (HOG.out.belowAll hbn9)
    clear hbn9
    go_wp2_with fail
    refine (markSegment_held AG LG.length cG 1 _ _ LG wn9 HOG.out rfl (by omega) (by omega)).mono ?_
    rintro e wn10 ⟨m, Hm, rfl, hon10, hgn10⟩
    have HB := Lib.hid (belowE_mark HB.out HOG.out hloG hgn10 HB.out.size)
    have HOS := Lib.hid (HOS.out.kept HOG.out (by omega) hgn10)
    have HOx := Lib.hid (HOx.out.kept HOG.out (by omega) hgn10)
    have HOG := Lib.hid hon10; have hzwn10 := hgn10.size; clear hon10 hgn10
    go_wp2_with fail
    refine (heldSegment_q AG LG.length cG 1 _ wn10 (HOG.out.seesAll elSegment) (by omega) (by omega)).mono ?_
    rintro e w9 ⟨q, Hq, rfl, rfl⟩
    obtain rfl : m = q := Hm.out.trans Hq.out.symm
    have hlou : w.heap.size ≤ wn10.heap.size := HB.out.size
    go_wp2_with fail
    refine (toPointS_any pa0 cap0 l0 wn10 ((HS0.out.below HB.out).mono HB.out.size) (by omega)).mono ?_
    rintro e wn11 ⟨Au, cu, Lu, HLu, rfl, hou, hbu⟩
    have eu : l0 = Lu := HLu.out.symm
    subst eu
    have hzwn11 := hbu.size
    have HB := Lib.hid (HB.out.trans (hbu.mono HB.out.size))
    have HOS := Lib.hid (HOS.out.belowAll hbu)
    have HOx := Lib.hid (HOx.out.belowAll hbu)
    have HOG := Lib.hid (HOG.out.belowAll hbu)
    clear hbu
    have HOu := Lib.hid hou.held; clear hou
    have hloH : w.heap.size ≤ wn11.heap.size := HB.out.size
    go_wp2_with fail
    refine (segmentsOf_any Au cu l0 wn11 (HOu.out.seesAll elPoint) (by omega)).mono ?_
    rintro e wn12 ⟨AH, cH, LH, HLH, rfl, hoH, hbH⟩
    have hnH : LH.length ≤ 1048576 := by rw [HLH.out]; have := sgV_len l0; omega
    have hzwn12 := hbH.size
    have HB := Lib.hid (HB.out.trans (hbH.mono HB.out.size))
    have HOS := Lib.hid (HOS.out.belowAll hbH)
    have HOx := Lib.hid (HOx.out.belowAll hbH)
    have HOG := Lib.hid (HOG.out.belowAll hbH)
    have HOu := Lib.hid (HOu.out.belowAll hbH)
    clear hbH
    have HOH := Lib.hid hoH.held; clear hoH
    go_wp2_with fail
    refine (eqSegmentS_yes AH AS cH cS LH LS wn12 (HOH.out.seesAll elSegment) (HOS.out.seesAll elSegment) (HLH.out.trans HLS.out.symm) (by omega)).mono ?_
    rintro e wn13 ⟨rfl, hbn13⟩
    have hzwn13 := hbn13.size
    have HB := Lib.hid (HB.out.trans (hbn13.mono HB.out.size))
    have HOS := Lib.hid (HOS.out.belowAll hbn13)
    have HOx := Lib.hid (HOx.out.belowAll hbn13)
    have HOG := Lib.hid (HOG.out.belowAll hbn13)
    have HOu := Lib.hid (HOu.out.belowAll hbn13)
    have HOH := Lib.hid (HOH.out.belowAll hbn13)
    clear hbn13
    go_wp2_with fail
    refine (heldSegment_q AG LG.length cG 1 _ wn13 (HOG.out.seesAll elSegment) (by omega) (by omega)).mono ?_
    rintro e w9 ⟨q2, Hq2, rfl, rfl⟩
    obtain rfl : m = q2 := Hm.out.trans Hq2.out.symm
    go_wp2
    go_ret
    exact ⟨rfl, HB.out⟩
  · go_wp2_with fail
    refine (szPointS_no pa0 l0.length cap0 1048576 w (by omega) (by omega) hm0).mono ?_
    rintro e w9 ⟨rfl, rfl⟩
    go_wp2
    go_ret
    exact ⟨rfl, Below.refl _ _⟩


end Go.Proofs.Ytjnbdbgkecfkcaa
