/- For every list of points, IsRing of package impl gives what the model gives, and leaves its argument as it was. -/
import Derived.Test.YtbnjaaegbmhopaaDoorRingS3
import Derived.Test.YtbnjaaegbmhopaaDoorRingI
import Derived.Test.YtbnjaaegbmhopaaDoorOpenPts
import Derived.Test.YtbnjaaegbmhopaaDoorHelpM
import Derived.Test.YtbnjaaegbmhopaaDoorLaidE
import Derived.Test.YtbnjaaegbmhopaaDoorRows
import Derived.Test.YtbnjaaegbmhopaaDoorTie
import Derived.Test.YtbnjaaegbmhopaaDoorCards
import Derived.WalkKit
import Derived.ProofKit
import Derived.OpenShut
import Derived.ShutString
import Derived.LaidMore
import Derived.SizedLaws
import Derived.Stop.Joined
import Derived.SevenTiedAt
import Derived.Below
section
/- The exact laws of IsRing, TwiceArea, IsInside and RingSegments. -/
namespace Go.Proofs.YtbnjaaegbmhopaaDoor
open Go.ChangeShapes Go.WideShapes Go.ChangeAt Go.RowKit
set_option linter.unusedVariables false

theorem OwnE.capLe {α : Type} {n : Nat} {enc : α → List Value} {w : World} {B : Nat} {e : TypeId} {A : Option Addr} {m c : Nat} {L : List α} (h : OwnE n enc w B e (.slice A m c) L) : (c : Int) ≤ 9223372036854775807 := by
  obtain ⟨A', c', hv, hc, -⟩ := h.form
  simp only [Value.slice.injEq] at hv
  unfold maxLen at hc
  omega
set_option maxRecDepth 100000 in
set_option maxHeartbeats 4000000 in
theorem law_FnExactIsRing (w : World) (a0 : Addr) (hE : ErrAt a0 w) (pa0 : Option Addr) (len0 cap0 : Nat) (l0 : List (Int × Int)) (ws0 : ShowsP w pa0 len0 l0) :
    Calls Tryd.prog 3 #[.slice pa0 len0 cap0] w fun e w' => e = .returned (.bool true) ∧ Below w.heap.size w w' := by
  obtain ⟨rfl, hs0, hm0⟩ := ws0
  have HS0 := Lib.hid hs0; clear hs0
  have HE := Lib.hid hE; clear hE
  obtain ⟨z, hz⟩ : ∃ z, isRg l0 = z := ⟨_, rfl⟩
  go_enter Tryd.func3, Tryd.ntmps3
  by_cases hc0 : (l0.length : Int) ≤ 1048576
  · skip
    go_wp2_with fail
    refine (szPointS_yes pa0 l0.length cap0 1048576 _ hc0 (by omega)).mono ?_
    rintro e w9 ⟨rfl, rfl⟩
    have hlt0 : ¬ ((1048576 : Int) - (l0.length : Int) < 0) := by omega
    have hlb0 : l0.length ≤ 1048576 := by omega
    have HB := Lib.hid (Below.refl w.heap.size w)
    have hlot : w.heap.size ≤ w.heap.size := HB.out.size
    go_wp2_with fail
    refine (toPointS_any pa0 cap0 l0 w ((HS0.out.below HB.out).mono HB.out.size) (by omega)).mono ?_
    rintro e wn1 ⟨At, ct, Lt, HLt, rfl, hot, hbt⟩
    have et : l0 = Lt := HLt.out.symm
    subst et
    have hzwn1 := hbt.size
    have HB := Lib.hid (HB.out.trans (hbt.mono HB.out.size))
    clear hbt
    have HOt := Lib.hid hot.held; clear hot
    have hloS : w.heap.size ≤ wn1.heap.size := HB.out.size
    go_wp2_with fail
    refine (sIsRing_is At ct l0 wn1 (HOt.out.seesAll elPoint) (by omega) z hz).mono ?_
    rintro e wn2 ⟨rfl, hbS⟩
    have hzwn2 := hbS.size
    have HB := Lib.hid (HB.out.trans (hbS.mono HB.out.size))
    have HOt := Lib.hid (HOt.out.belowAll hbS)
    clear hbS
    have hlox : w.heap.size ≤ wn2.heap.size := HB.out.size
    go_wp2_with fail
    refine (toPointS_any pa0 cap0 l0 wn2 ((HS0.out.below HB.out).mono HB.out.size) (by omega)).mono ?_
    rintro e wn3 ⟨Ax, cx, Lx, HLx, rfl, hox, hbx⟩
    have ex : l0 = Lx := HLx.out.symm
    subst ex
    have hzwn3 := hbx.size
    have HB := Lib.hid (HB.out.trans (hbx.mono HB.out.size))
    have HOt := Lib.hid (HOt.out.belowAll hbx)
    clear hbx
    have HOx := Lib.hid hox.held; clear hox
    have hloG : w.heap.size ≤ wn3.heap.size := HB.out.size
    go_wp2_with fail
    refine (isRing_is a0 Ax cx l0 wn3 (HE.out.all HB.out) (HOx.out.seesAll elPoint) (by omega) HOx.out.1.cap HOx.out.1.capLe z hz).mono ?_
    rintro e wn4 ⟨rfl, hbG⟩
    have hzwn4 := hbG.size
    have HB := Lib.hid (HB.out.trans (hbG.mono HB.out.size))
    have HOt := Lib.hid (HOt.out.belowAll hbG)
    have HOx := Lib.hid (HOx.out.belowAll hbG)
    clear hbG
    have hloy : w.heap.size ≤ wn4.heap.size := HB.out.size
    go_wp2_with fail
    refine (toPointS_any pa0 cap0 l0 wn4 ((HS0.out.below HB.out).mono HB.out.size) (by omega)).mono ?_
    rintro e wn5 ⟨Ay, cy, Ly, HLy, rfl, hoy, hby⟩
    have ey : l0 = Ly := HLy.out.symm
    subst ey
    have hzwn5 := hby.size
    have HB := Lib.hid (HB.out.trans (hby.mono HB.out.size))
    have HOt := Lib.hid (HOt.out.belowAll hby)
    have HOx := Lib.hid (HOx.out.belowAll hby)
    clear hby
    have HOy := Lib.hid hoy.held; clear hoy
    go_wp2_with fail
    refine (eqPointS_yes Ax Ay cx cy l0 l0 wn5 (HOx.out.seesAll elPoint) (HOy.out.seesAll elPoint) (rfl) (by omega)).mono ?_
    rintro e wn6 ⟨rfl, hbn6⟩
    have hzwn6 := hbn6.size
    have HB := Lib.hid (HB.out.trans (hbn6.mono HB.out.size))
    have HOt := Lib.hid (HOt.out.belowAll hbn6)
    have HOx := Lib.hid (HOx.out.belowAll hbn6)
    have HOy := Lib.hid (HOy.out.belowAll hbn6)
    clear hbn6
    go_wp2
    go_ret
    exact ⟨rfl, HB.out⟩
  · go_wp2_with fail
    refine (szPointS_no pa0 l0.length cap0 1048576 _ (by omega) (by omega) hm0).mono ?_
    rintro e w9 ⟨rfl, rfl⟩
    go_wp2
    go_ret
    exact ⟨rfl, Below.refl _ _⟩
theorem law_FnExactIsRing_laid (w : World) (pa0 : Option Addr) (len0 cap0 : Nat) (l0 : List (Int × Int)) (ws0 : ShowsP w pa0 len0 l0)   (hL : laidMet Tryd.prog Rows.fnExactIsRingRow.laid w) :
    Calls Tryd.prog 3 #[.slice pa0 len0 cap0] w fun e w' => e = .returned (.bool true) ∧ Below w.heap.size w w' := by
  obtain ⟨a0, hE⟩ := errAt_of hL
  exact law_FnExactIsRing w a0 hE pa0 len0 cap0 l0 ws0 

set_option maxRecDepth 100000 in
set_option maxHeartbeats 4000000 in
theorem law_FnExactTwiceArea (w : World) (a0 : Addr) (hE : ErrAt a0 w) (pa0 : Option Addr) (len0 cap0 : Nat) (l0 : List (Int × Int)) (ws0 : ShowsP w pa0 len0 l0) :
    Calls Tryd.prog 4 #[.slice pa0 len0 cap0] w fun e w' => e = .returned (.bool true) ∧ Below w.heap.size w w' := by
  obtain ⟨rfl, hs0, hm0⟩ := ws0
  have HS0 := Lib.hid hs0; clear hs0
  have HE := Lib.hid hE; clear hE
  obtain ⟨z, hz⟩ : ∃ z, twA l0 = z := ⟨_, rfl⟩
  go_enter Tryd.func4, Tryd.ntmps4
  by_cases hc0 : (l0.length : Int) ≤ 1048576
  · skip
    go_wp2_with fail
    refine (szPointS_yes pa0 l0.length cap0 1048576 _ hc0 (by omega)).mono ?_
    rintro e w9 ⟨rfl, rfl⟩
    have hlt0 : ¬ ((1048576 : Int) - (l0.length : Int) < 0) := by omega
    have hlb0 : l0.length ≤ 1048576 := by omega
    have HB := Lib.hid (Below.refl w.heap.size w)
    have hlot : w.heap.size ≤ w.heap.size := HB.out.size
    go_wp2_with fail
    refine (toPointS_any pa0 cap0 l0 w ((HS0.out.below HB.out).mono HB.out.size) (by omega)).mono ?_
    rintro e wn1 ⟨At, ct, Lt, HLt, rfl, hot, hbt⟩
    have et : l0 = Lt := HLt.out.symm
    subst et
    have hzwn1 := hbt.size
    have HB := Lib.hid (HB.out.trans (hbt.mono HB.out.size))
    clear hbt
    have HOt := Lib.hid hot.held; clear hot
    have hloS : w.heap.size ≤ wn1.heap.size := HB.out.size
    go_wp2_with fail
    refine (sTwiceArea_is At ct l0 wn1 (HOt.out.seesAll elPoint) (by omega) z hz).mono ?_
    rintro e wn2 ⟨rfl, hbS⟩
    have hzwn2 := hbS.size
    have HB := Lib.hid (HB.out.trans (hbS.mono HB.out.size))
    have HOt := Lib.hid (HOt.out.belowAll hbS)
    clear hbS
    have hlox : w.heap.size ≤ wn2.heap.size := HB.out.size
    go_wp2_with fail
    refine (toPointS_any pa0 cap0 l0 wn2 ((HS0.out.below HB.out).mono HB.out.size) (by omega)).mono ?_
    rintro e wn3 ⟨Ax, cx, Lx, HLx, rfl, hox, hbx⟩
    have ex : l0 = Lx := HLx.out.symm
    subst ex
    have hzwn3 := hbx.size
    have HB := Lib.hid (HB.out.trans (hbx.mono HB.out.size))
    have HOt := Lib.hid (HOt.out.belowAll hbx)
    clear hbx
    have HOx := Lib.hid hox.held; clear hox
    have hloG : w.heap.size ≤ wn3.heap.size := HB.out.size
    go_wp2_with fail
    refine (twiceArea_is a0 Ax cx l0 wn3 (HE.out.all HB.out) (HOx.out.seesAll elPoint) (by omega) HOx.out.1.cap HOx.out.1.capLe z hz).mono ?_
    rintro e wn4 ⟨rfl, hbG⟩
    have hzwn4 := hbG.size
    have HB := Lib.hid (HB.out.trans (hbG.mono HB.out.size))
    have HOt := Lib.hid (HOt.out.belowAll hbG)
    have HOx := Lib.hid (HOx.out.belowAll hbG)
    clear hbG
    have hloy : w.heap.size ≤ wn4.heap.size := HB.out.size
    go_wp2_with fail
    refine (toPointS_any pa0 cap0 l0 wn4 ((HS0.out.below HB.out).mono HB.out.size) (by omega)).mono ?_
    rintro e wn5 ⟨Ay, cy, Ly, HLy, rfl, hoy, hby⟩
    have ey : l0 = Ly := HLy.out.symm
    subst ey
    have hzwn5 := hby.size
    have HB := Lib.hid (HB.out.trans (hby.mono HB.out.size))
    have HOt := Lib.hid (HOt.out.belowAll hby)
    have HOx := Lib.hid (HOx.out.belowAll hby)
    clear hby
    have HOy := Lib.hid hoy.held; clear hoy
    go_wp2_with fail
    refine (eqPointS_yes Ax Ay cx cy l0 l0 wn5 (HOx.out.seesAll elPoint) (HOy.out.seesAll elPoint) (rfl) (by omega)).mono ?_
    rintro e wn6 ⟨rfl, hbn6⟩
    have hzwn6 := hbn6.size
    have HB := Lib.hid (HB.out.trans (hbn6.mono HB.out.size))
    have HOt := Lib.hid (HOt.out.belowAll hbn6)
    have HOx := Lib.hid (HOx.out.belowAll hbn6)
    have HOy := Lib.hid (HOy.out.belowAll hbn6)
    clear hbn6
    go_wp2
    go_ret
    exact ⟨rfl, HB.out⟩
  · go_wp2_with fail
    refine (szPointS_no pa0 l0.length cap0 1048576 _ (by omega) (by omega) hm0).mono ?_
    rintro e w9 ⟨rfl, rfl⟩
    go_wp2
    go_ret
    exact ⟨rfl, Below.refl _ _⟩
theorem law_FnExactTwiceArea_laid (w : World) (pa0 : Option Addr) (len0 cap0 : Nat) (l0 : List (Int × Int)) (ws0 : ShowsP w pa0 len0 l0)   (hL : laidMet Tryd.prog Rows.fnExactTwiceAreaRow.laid w) :
    Calls Tryd.prog 4 #[.slice pa0 len0 cap0] w fun e w' => e = .returned (.bool true) ∧ Below w.heap.size w w' := by
  obtain ⟨a0, hE⟩ := errAt_of hL
  exact law_FnExactTwiceArea w a0 hE pa0 len0 cap0 l0 ws0 

set_option maxRecDepth 100000 in
set_option maxHeartbeats 4000000 in
theorem law_FnExactRingSegments (w : World) (a0 : Addr) (hE : ErrAt a0 w) (pa0 : Option Addr) (len0 cap0 : Nat) (l0 : List (Int × Int)) (ws0 : ShowsP w pa0 len0 l0) :
    Calls Tryd.prog 6 #[.slice pa0 len0 cap0] w fun e w' => e = .returned (.bool true) ∧ Below w.heap.size w w' := by
  obtain ⟨rfl, hs0, hm0⟩ := ws0
  have HS0 := Lib.hid hs0; clear hs0
  have HE := Lib.hid hE; clear hE
  go_enter Tryd.func6, Tryd.ntmps6
  by_cases hc0 : (l0.length : Int) ≤ 1048576
  · skip
    go_wp2_with fail
    refine (szPointS_yes pa0 l0.length cap0 1048576 _ hc0 (by omega)).mono ?_
    rintro e w9 ⟨rfl, rfl⟩
    have hlt0 : ¬ ((1048576 : Int) - (l0.length : Int) < 0) := by omega
    have hlb0 : l0.length ≤ 1048576 := by omega
    have HB := Lib.hid (Below.refl w.heap.size w)
    have hlot : w.heap.size ≤ w.heap.size := HB.out.size
    go_wp2_with fail
    refine (toPointS_any pa0 cap0 l0 w ((HS0.out.below HB.out).mono HB.out.size) (by omega)).mono ?_
    rintro e wn1 ⟨At, ct, Lt, HLt, rfl, hot, hbt⟩
    have et : l0 = Lt := HLt.out.symm
    subst et
    have hzwn1 := hbt.size
    have HB := Lib.hid (HB.out.trans (hbt.mono HB.out.size))
    clear hbt
    have HOt := Lib.hid hot.held; clear hot
    have hloS : w.heap.size ≤ wn1.heap.size := HB.out.size
    go_wp2_with fail
    refine (sRingSegments_any At ct l0 wn1 (HOt.out.seesAll elPoint) (by omega)).mono ?_
    rintro e wn2 ⟨AS, cS, LS, HLS, rfl, hoS, hbS⟩
    have hnS : LS.length ≤ 1048576 := by rw [HLS.out]; have := rsV_len l0; omega
    have hzwn2 := hbS.size
    have HB := Lib.hid (HB.out.trans (hbS.mono HB.out.size))
    have HOt := Lib.hid (HOt.out.belowAll hbS)
    clear hbS
    have HOS := Lib.hid hoS.held; clear hoS
    have hlox : w.heap.size ≤ wn2.heap.size := HB.out.size
    go_wp2_with fail
    refine (toPointS_any pa0 cap0 l0 wn2 ((HS0.out.below HB.out).mono HB.out.size) (by omega)).mono ?_
    rintro e wn3 ⟨Ax, cx, Lx, HLx, rfl, hox, hbx⟩
    have ex : l0 = Lx := HLx.out.symm
    subst ex
    have hzwn3 := hbx.size
    have HB := Lib.hid (HB.out.trans (hbx.mono HB.out.size))
    have HOt := Lib.hid (HOt.out.belowAll hbx)
    have HOS := Lib.hid (HOS.out.belowAll hbx)
    clear hbx
    have HOx := Lib.hid hox.held; clear hox
    have hloG : w.heap.size ≤ wn3.heap.size := HB.out.size
    go_wp2_with fail
    refine (ringSegments_any a0 Ax cx l0 wn3 (HE.out.all HB.out) (HOx.out.seesAll elPoint) (by omega) HOx.out.1.cap HOx.out.1.capLe).mono ?_
    rintro e wn4 ⟨AG, cG, LG, HLG, rfl, hoG, hbG⟩
    have hnG : LG.length ≤ 1048576 := by rw [HLG.out]; have := rsV_len l0; omega
    have hzwn4 := hbG.size
    have HB := Lib.hid (HB.out.trans (hbG.mono HB.out.size))
    have HOt := Lib.hid (HOt.out.belowAll hbG)
    have HOS := Lib.hid (HOS.out.belowAll hbG)
    have HOx := Lib.hid (HOx.out.belowAll hbG)
    clear hbG
    have HOG := Lib.hid hoG.held; clear hoG
    go_wp2_with fail
    refine (eqSegmentS_yes AG AS cG cS LG LS wn4 (HOG.out.seesAll elSegment) (HOS.out.seesAll elSegment) (HLG.out.trans HLS.out.symm) (by omega)).mono ?_
    rintro e wn5 ⟨rfl, hbn5⟩
    have hzwn5 := hbn5.size
    have HB := Lib.hid (HB.out.trans (hbn5.mono HB.out.size))
    have HOt := Lib.hid (HOt.out.belowAll hbn5)
    have HOS := Lib.hid (HOS.out.belowAll hbn5)
    have HOx := Lib.hid (HOx.out.belowAll hbn5)
    have HOG := Lib.hid (HOG.out.belowAll hbn5)
    clear hbn5
    have hloy : w.heap.size ≤ wn5.heap.size := HB.out.size
    go_wp2_with fail
    refine (toPointS_any pa0 cap0 l0 wn5 ((HS0.out.below HB.out).mono HB.out.size) (by omega)).mono ?_
    rintro e wn6 ⟨Ay, cy, Ly, HLy, rfl, hoy, hby⟩
    have ey : l0 = Ly := HLy.out.symm
    subst ey
    have hzwn6 := hby.size
    have HB := Lib.hid (HB.out.trans (hby.mono HB.out.size))
    have HOt := Lib.hid (HOt.out.belowAll hby)
    have HOS := Lib.hid (HOS.out.belowAll hby)
    have HOx := Lib.hid (HOx.out.belowAll hby)
    have HOG := Lib.hid (HOG.out.belowAll hby)
    clear hby
    have HOy := Lib.hid hoy.held; clear hoy
    go_wp2_with fail
    refine (eqPointS_yes Ax Ay cx cy l0 l0 wn6 (HOx.out.seesAll elPoint) (HOy.out.seesAll elPoint) (rfl) (by omega)).mono ?_
    rintro e wn7 ⟨rfl, hbn7⟩
    have hzwn7 := hbn7.size
    have HB := Lib.hid (HB.out.trans (hbn7.mono HB.out.size))
    have HOt := Lib.hid (HOt.out.belowAll hbn7)
    have HOS := Lib.hid (HOS.out.belowAll hbn7)
    have HOx := Lib.hid (HOx.out.belowAll hbn7)
    have HOG := Lib.hid (HOG.out.belowAll hbn7)
    have HOy := Lib.hid (HOy.out.belowAll hbn7)
    clear hbn7
    clear HOt HOy
    go_wp2_with fail
    refine (markPoint_held Ax l0.length cx 1 _ _ l0 wn7 HOx.out rfl (by omega) (by omega)).mono ?_
    rintro e wn8 ⟨k, Hk, rfl, hon8, hgn8⟩
    have HB := Lib.hid (belowE_mark HB.out HOx.out hlox hgn8 HB.out.size)
    have HOS := Lib.hid (HOS.out.kept HOx.out (by omega) hgn8)
    have HOG := Lib.hid (HOG.out.kept HOx.out (by omega) hgn8)
    have HOx := Lib.hid hon8; have hzwn8 := hgn8.size; clear hon8 hgn8
    go_wp2_with fail
    refine (eqSegmentS_yes AG AS cG cS LG LS wn8 (HOG.out.seesAll elSegment) (HOS.out.seesAll elSegment) (HLG.out.trans HLS.out.symm) (by omega)).mono ?_
    rintro e wn9 ⟨rfl, hbn9⟩
    have hzwn9 := hbn9.size
    have HB := Lib.hid (HB.out.trans (hbn9.mono HB.out.size))
    have HOS := Lib.hid (HOS.out.belowAll hbn9)
    have HOx := Lib.hid (HOx.out.belowAll hbn9)
    have HOG := Lib.hid (HOG.out.belowAll hbn9)
    clear hbn9
    go_wp2_with fail
    refine (markSegment_held AG LG.length cG 1 _ _ LG wn9 HOG.out rfl (by omega) (by omega)).mono ?_
    rintro e wn10 ⟨m, Hm, rfl, hon10, hgn10⟩
    have HB := Lib.hid (belowE_mark HB.out HOG.out hloG hgn10 HB.out.size)
    have HOS := Lib.hid (HOS.out.kept HOG.out (by omega) hgn10)
    have HOx := Lib.hid (HOx.out.kept HOG.out (by omega) hgn10)
    have HOG := Lib.hid hon10; have hzwn10 := hgn10.size; clear hon10 hgn10
    go_wp2_with fail
    refine (heldSegment_q AG LG.length cG 1 _ wn10 (HOG.out.seesAll elSegment) (by omega) (by omega)).mono ?_
    rintro e w9 ⟨q, Hq, rfl, rfl⟩
    obtain rfl : m = q := Hm.out.trans Hq.out.symm
    have hlou : w.heap.size ≤ wn10.heap.size := HB.out.size
    go_wp2_with fail
    refine (toPointS_any pa0 cap0 l0 wn10 ((HS0.out.below HB.out).mono HB.out.size) (by omega)).mono ?_
    rintro e wn11 ⟨Au, cu, Lu, HLu, rfl, hou, hbu⟩
    have eu : l0 = Lu := HLu.out.symm
    subst eu
    have hzwn11 := hbu.size
    have HB := Lib.hid (HB.out.trans (hbu.mono HB.out.size))
    have HOS := Lib.hid (HOS.out.belowAll hbu)
    have HOx := Lib.hid (HOx.out.belowAll hbu)
    have HOG := Lib.hid (HOG.out.belowAll hbu)
    clear hbu
    have HOu := Lib.hid hou.held; clear hou
    have hloH : w.heap.size ≤ wn11.heap.size := HB.out.size
    go_wp2_with fail
    refine (ringSegments_any a0 Au cu l0 wn11 (HE.out.all HB.out) (HOu.out.seesAll elPoint) (by omega) HOu.out.1.cap HOu.out.1.capLe).mono ?_
    rintro e wn12 ⟨AH, cH, LH, HLH, rfl, hoH, hbH⟩
    have hnH : LH.length ≤ 1048576 := by rw [HLH.out]; have := rsV_len l0; omega
    have hzwn12 := hbH.size
    have HB := Lib.hid (HB.out.trans (hbH.mono HB.out.size))
    have HOS := Lib.hid (HOS.out.belowAll hbH)
    have HOx := Lib.hid (HOx.out.belowAll hbH)
    have HOG := Lib.hid (HOG.out.belowAll hbH)
    have HOu := Lib.hid (HOu.out.belowAll hbH)
    clear hbH
    have HOH := Lib.hid hoH.held; clear hoH
    go_wp2_with fail
    refine (eqSegmentS_yes AH AS cH cS LH LS wn12 (HOH.out.seesAll elSegment) (HOS.out.seesAll elSegment) (HLH.out.trans HLS.out.symm) (by omega)).mono ?_
    rintro e wn13 ⟨rfl, hbn13⟩
    have hzwn13 := hbn13.size
    have HB := Lib.hid (HB.out.trans (hbn13.mono HB.out.size))
    have HOS := Lib.hid (HOS.out.belowAll hbn13)
    have HOx := Lib.hid (HOx.out.belowAll hbn13)
    have HOG := Lib.hid (HOG.out.belowAll hbn13)
    have HOu := Lib.hid (HOu.out.belowAll hbn13)
    have HOH := Lib.hid (HOH.out.belowAll hbn13)
    clear hbn13
    go_wp2_with fail
    refine (heldSegment_q AG LG.length cG 1 _ wn13 (HOG.out.seesAll elSegment) (by omega) (by omega)).mono ?_
    rintro e w9 ⟨q2, Hq2, rfl, rfl⟩
    obtain rfl : m = q2 := Hm.out.trans Hq2.out.symm
    go_wp2
    go_ret
    exact ⟨rfl, HB.out⟩
  · go_wp2_with fail
    refine (szPointS_no pa0 l0.length cap0 1048576 _ (by omega) (by omega) hm0).mono ?_
    rintro e w9 ⟨rfl, rfl⟩
    go_wp2
    go_ret
    exact ⟨rfl, Below.refl _ _⟩
theorem law_FnExactRingSegments_laid (w : World) (pa0 : Option Addr) (len0 cap0 : Nat) (l0 : List (Int × Int)) (ws0 : ShowsP w pa0 len0 l0)   (hL : laidMet Tryd.prog Rows.fnExactRingSegmentsRow.laid w) :
    Calls Tryd.prog 6 #[.slice pa0 len0 cap0] w fun e w' => e = .returned (.bool true) ∧ Below w.heap.size w w' := by
  obtain ⟨a0, hE⟩ := errAt_of hL
  exact law_FnExactRingSegments w a0 hE pa0 len0 cap0 l0 ws0 
end Go.Proofs.YtbnjaaegbmhopaaDoor
end
section
namespace Go.Proofs.YtbnjaaegbmhopaaDoor.fnExactIsRing
open Go.ChangeShapes Go.WideShapes Go.ChangeAt Go.WideMaps Go.WideElems Go.RowKit
open Go.ChangeMaps (open_string shut_string)
set_option linter.unusedVariables false

theorem own : ownKnob Tryd.prog.godebug = none := by kernel_rfl
theorem laidOut : laidOutB Tryd.prog = true := by kernel_rfl

/-- What the package-level variables hold behind the program's own initialisers meets the row's condition. -/
theorem door_met (os : Os) (args : Array Value) : laidMetH Tryd.prog Rows.fnExactIsRingRow.laid ((World.doorLaid Tryd.prog 28 os).forCall (fun _ _ => 0) ⟨#[], args, []⟩).memory :=
  laidMetH_of_parts3 (fuel := 8) (laidMet_of_run' 8 (by kernel_rfl) (by kernel_rfl)) (by kernel_rfl) (by kernel_rfl)

set_option maxRecDepth 100000 in
theorem lifted (os : Os) (started : os.Started) (H : Type) (enc : TypeId × Value → H) :
    ReturnsInHanded {} Tryd.checked os 3 .any (fun w args => (Rows.fnExactIsRingSpec.pre enc Tryd.prog Tryd.f3 [] false w args ∧ laidMetH Tryd.prog Rows.fnExactIsRingRow.laid w) ∧ sizedMet enc Tryd.prog Tryd.f3 (OpenSpec.ofChange Rows.fnExactIsRingSpec) false w args)
      (Rows.fnExactIsRingSpec.post enc Tryd.prog Tryd.f3 false true false false) := by
  refine returnsInHanded_of_change_and (C := Tryd.checked) (X := fun w _ => laidMetH Tryd.prog Rows.fnExactIsRingRow.laid w) (fun _ _ _ hh h => h.of_heap hh) own started (by kernel_rfl) Tryd.func3
    (ChangeSpec.witness_shaped (enc := enc) (C := Tryd.checked) (os := os) (X := fun w _ => laidMetH Tryd.prog Rows.fnExactIsRingRow.laid w) false (World.doorLaid Tryd.prog 28 os) #[.slice none 0 0] 8 rfl (World.shaped_of_RefB (by kernel_rfl) (by kernel_rfl)) (by kernel_rfl) (by kernel_rfl) (by kernel_rfl) (door_met os _)) ?_
  intro W base args ds gs before hval0 hW _ hsz0 hL0 _
  have hsz : (DataW.weightsEach Tryd.prog (Tryd.f3.params.toList ++ Rows.fnExactIsRingSpec.plain.varTypes Tryd.prog) (ds ++ gs)).all (· ≤ reachBytes) = true := hsz0
  clear hsz0
  have hL : laidMet Tryd.prog Rows.fnExactIsRingRow.laid W := by rw [MakeChecks.laidMetH_plain _ _ _ (by kernel_rfl)] at hL0; exact hL0
  have hval : ∀ (j : Nat) t v, Tryd.f3.params[j]? = some t → args[j]? = some v → Value.okWide Tryd.prog W .any base t v := hval0
  have hW' := hW
  obtain ⟨p, q, hA0, hV, rfl, hfz, hnd⟩ := hW
  have hA : DataW.TrodAll enc Tryd.prog W 0 (fun _ => true) true Tryd.f3.params.toList args.toList ds p := hA0
  rw [Tryd.params3] at hA hval hsz
  obtain ⟨v0, vs0, d0, ds0, p0, q0, hargs, rfl, rfl, h0, r0⟩ := trodAll_cons hA
  obtain ⟨rfl, rfl, rfl⟩ := trodAll_nil r0
  obtain rfl : args = #[v0] := by cases args; simp_all
  obtain ⟨a0, hv0⟩ := errVar_of hL
  have hV1 : DataW.TrodVars enc Tryd.prog W (fun _ => true) ["loop.example/g03005/impl.errNoRing"] gs q := hV
  obtain ⟨rfl, rfl⟩ := hV1.unique (errVars enc hv0 _)
  have k0 := h0
  have lt0 : ∀ x ∈ p0, x.block < W.heap.size := by obtain ⟨m, hm⟩ := k0; exact DataW.trod_lt m _ _ _ hm
  obtain ⟨pa0, len0, cap0, l0, rfl, ws0⟩ := open_pts (hval 0 22 v0 rfl rfl) h0
  clear hA0 hval0
  refine (law_FnExactIsRing_laid W pa0 len0 cap0 l0 ws0 hL).mono fun e W' ⟨he, bel⟩ => ?_
  subst he
  exact ⟨_, rfl, _, _, _, [], _, _, hW', trodAll_mk1 (shut_bool Tryd.underlying4 _), (trodAll_cons_mk (Below.trod laidOut (by kernel_rfl) (of_decide_eq_true (by kernel_rfl)) k0 bel lt0) trodAll_mk0), errVars enc (errVar_below hv0 bel) _, bel.frame _, fun h => by cases h⟩

theorem over : Rows.fnExactIsRingRow.holds Tryd.pinned (OpenSpec.ofChange Rows.fnExactIsRingSpec) :=
  OpenClaim.holds_of_wide 3 Tryd.f3 rfl rfl rfl rfl rfl rfl rfl ⟨rfl, rfl, rfl, rfl, rfl⟩ rfl rfl rfl rfl rfl (by kernel_rfl) Tryd.func3 (by kernel_rfl)
    (of_decide_eq_true (by kernel_rfl)) (by unfold Func.isWrapper; first | (rw [if_pos (by decide +kernel)]; kernel_rfl) | (rw [if_neg (by decide +kernel)]; exact ⟨rfl, rfl⟩))
    (fun os started H enc _ => lifted os started H enc)

/-- THE STATEMENT. -/
theorem proved : Rows.FnExactIsRingCardSaid :=
  Claim7.holds_tied_plain_at .later [] [.sentinel] true (true, "0c1df87fee66ea7df00567f92dbc08ccfacd06d53b622fdf9cf6929ab31f35f8") true
    over (fun _ h => by cases h) (by kernel_rfl) (fun _ h => by cases h) fnExactIsRing_row_tie rfl ⟨rfl, rfl⟩ (by kernel_rfl) rfl
    (fun f fn hf hfn => by
      obtain rfl : f = 3 := Option.some.inj ((show Tryd.prog.funcNamed "loop.example/g03005/laws.FnExactIsRing" = some 3 by kernel_rfl).symm.trans hf) |>.symm
      obtain rfl : fn = Tryd.f3 := (Option.some.inj (Tryd.func3.symm.trans hfn)).symm
      exact ⟨by kernel_rfl, fun j t ht => by
        rw [Tryd.params3] at ht
        have hm : t ∈ [22] := by simpa using Array.mem_of_getElem? ht
        have hall : ([22].all fun u => !Tryd.prog.wantsStandIn u) = true := by kernel_rfl
        exact (show Tryd.prog.wantsStandIn t = false by simpa using List.all_eq_true.1 hall t hm)⟩)
    (by kernel_rfl)
#print axioms proved
end Go.Proofs.YtbnjaaegbmhopaaDoor.fnExactIsRing
end
