/- The exact law of IsFaithful. -/
import Derived.Test.YtpbmngbigdaklaaSimpG
import Derived.Test.YtpbmngbigdaklaaSimpH
import Derived.Test.YtpbmngbigdaklaaHelpM
import Derived.Test.YtpbmngbigdaklaaOpenPts
namespace Go.Proofs.Ytpbmngbigdaklaa
open Go.ChangeShapes Go.WideShapes Go.ChangeAt Go.RowKit
set_option linter.unusedVariables false

set_option maxRecDepth 100000 in
set_option maxHeartbeats 4000000 in
theorem law_FnExactIsFaithful (pa0 : Option Addr) (len0 cap0 : Nat) (l0 : List (Int × Int)) (pa1 : Option Addr) (len1 cap1 : Nat) (l1 : List (Int × Int)) (a2 : Int) (w : World) (ws0 : ShowsP w pa0 len0 l0) (ws1 : ShowsP w pa1 len1 l1) (w2 : (Lit.int .i64 a2).wf = true)  :
    Calls Try.prog 5 #[.slice pa0 len0 cap0, .slice pa1 len1 cap1, .int .i64 a2] w fun e w' => e = .returned (.bool true) ∧ Below w.heap.size w w' := by
  obtain ⟨rfl, hp0, hm0⟩ := ws0
  have HP0 := Lib.hid hp0; clear hp0
  obtain ⟨rfl, hp1, hm1⟩ := ws1
  have HP1 := Lib.hid hp1; clear hp1
  obtain ⟨z, hR⟩ : ∃ z, faithV l0 l1 a2 = z := ⟨_, rfl⟩
  have HI := Lib.hid hR; clear hR
  have HV := Lib.hid (Vars.nil w)
  go_enter Try.func5, Try.ntmps5
  have hz0 : w.heap.size ≤ w.heap.size := Nat.le_refl _
  have hl0 : (0 : Int) ≤ 1048576 := by omega
  by_cases hc0 : (l0.length : Int) ≤ 1048576
  · skip
    go_wp2_with fail
    refine (szPointS_yes pa0 l0.length cap0 (1048576) _ hc0 (by omega)).mono ?_
    rintro e w9 ⟨rfl, rfl⟩
    have hlt0 : ¬ (1048576 - (l0.length : Int) < 0) := by omega
    have hl1 : (0 : Int) ≤ 1048576 - (l0.length : Int) := by omega
    by_cases hc1 : (l1.length : Int) ≤ 1048576 - (l0.length : Int)
    · skip
      go_wp2_with fail
      refine (szPointS_yes pa1 l1.length cap1 (1048576 - (l0.length : Int)) _ hc1 (by omega)).mono ?_
      rintro e w9 ⟨rfl, rfl⟩
      have hlt1 : ¬ (1048576 - (l0.length : Int) - (l1.length : Int) < 0) := by omega
      go_wp2_with fail
      refine (toPointS_any pa0 cap0 l0 _ ((HP0.out.below HV.out.1).mono HV.out.1.size) (by omega)).mono ?_
      rintro e v3 ⟨At0, ct0, Lt0, hLt0, rfl, hot0, hb⟩
      obtain rfl : l0 = Lt0 := hLt0.out.symm
      have HOt0 := Lib.hid hot0.held; clear hLt0 hot0
      have hz3 := hb.size
      replace HV := Lib.hid (HV.out.next hb)
      clear hb
      go_wp2_with fail
      refine (toPointS_any pa1 cap1 l1 _ ((HP1.out.below HV.out.1).mono HV.out.1.size) (by omega)).mono ?_
      rintro e v4 ⟨At1, ct1, Lt1, hLt1, rfl, hot1, hb⟩
      obtain rfl : l1 = Lt1 := hLt1.out.symm
      have HOt1 := Lib.hid hot1.held; clear hLt1 hot1
      have hz4 := hb.size
      replace HV := Lib.hid (HV.out.next hb)
      replace HOt0 := Lib.hid (HOt0.out.belowAll hb)
      clear hb
      go_wp2_with fail
      refine (sIsFaithful_is At0 At1 ct0 ct1 l0 l1 a2 _ (HOt0.out.seesAll elPoint) (HOt1.out.seesAll elPoint) (by omega) (by omega) _ HI.out).mono ?_
      rintro e v5 ⟨rfl, hb⟩
      have hz5 := hb.size
      replace HV := Lib.hid (HV.out.next hb)
      replace HOt0 := Lib.hid (HOt0.out.belowAll hb)
      replace HOt1 := Lib.hid (HOt1.out.belowAll hb)
      clear hb
      clear HOt0
      clear HOt1
      go_wp2_with fail
      refine (toPointS_any pa0 cap0 l0 _ ((HP0.out.below HV.out.1).mono HV.out.1.size) (by omega)).mono ?_
      rintro e v6 ⟨Ax0, cx0, Lx0, hLx0, rfl, hox0, hb⟩
      obtain rfl : l0 = Lx0 := hLx0.out.symm
      have HOx0 := Lib.hid hox0.held; clear hLx0 hox0
      have hz6 := hb.size
      replace HV := Lib.hid (HV.out.next hb)
      clear hb
      go_wp2_with fail
      refine (toPointS_any pa1 cap1 l1 _ ((HP1.out.below HV.out.1).mono HV.out.1.size) (by omega)).mono ?_
      rintro e v7 ⟨Ax1, cx1, Lx1, hLx1, rfl, hox1, hb⟩
      obtain rfl : l1 = Lx1 := hLx1.out.symm
      have HOx1 := Lib.hid hox1.held; clear hLx1 hox1
      have hz7 := hb.size
      replace HV := Lib.hid (HV.out.next hb)
      replace HOx0 := Lib.hid (HOx0.out.belowAll hb)
      clear hb
      go_wp2_with fail
      refine (isFaithful_is Ax0 Ax1 cx0 cx1 l0 l1 a2 _ (HOx0.out.seesAll elPoint) (HOx1.out.seesAll elPoint) (by omega) (by omega) _ HI.out).mono ?_
      rintro e v8 ⟨rfl, hb⟩
      have hz8 := hb.size
      replace HV := Lib.hid (HV.out.next hb)
      replace HOx0 := Lib.hid (HOx0.out.belowAll hb)
      replace HOx1 := Lib.hid (HOx1.out.belowAll hb)
      clear hb
      go_wp2_with fail
      refine (toPointS_any pa0 cap0 l0 _ ((HP0.out.below HV.out.1).mono HV.out.1.size) (by omega)).mono ?_
      rintro e v9 ⟨Ay, cy, Ly, hLy, rfl, hoy, hb⟩
      obtain rfl : l0 = Ly := hLy.out.symm
      have HOy := Lib.hid hoy.held; clear hLy hoy
      have hz9 := hb.size
      replace HV := Lib.hid (HV.out.next hb)
      replace HOx0 := Lib.hid (HOx0.out.belowAll hb)
      replace HOx1 := Lib.hid (HOx1.out.belowAll hb)
      clear hb
      go_wp2_with fail
      refine (eqPointS_yes Ax0 Ay cx0 cy l0 l0 _ (HOx0.out.seesAll elPoint) (HOy.out.seesAll elPoint) rfl (by omega)).mono ?_
      rintro e v10 ⟨rfl, hb⟩
      have hz10 := hb.size
      replace HV := Lib.hid (HV.out.next hb)
      replace HOx0 := Lib.hid (HOx0.out.belowAll hb)
      replace HOx1 := Lib.hid (HOx1.out.belowAll hb)
      replace HOy := Lib.hid (HOy.out.belowAll hb)
      clear hb
      clear HOy
      go_wp2_with fail
      refine (toPointS_any pa1 cap1 l1 _ ((HP1.out.below HV.out.1).mono HV.out.1.size) (by omega)).mono ?_
      rintro e v11 ⟨Ay, cy, Ly, hLy, rfl, hoy, hb⟩
      obtain rfl : l1 = Ly := hLy.out.symm
      have HOy := Lib.hid hoy.held; clear hLy hoy
      have hz11 := hb.size
      replace HV := Lib.hid (HV.out.next hb)
      replace HOx0 := Lib.hid (HOx0.out.belowAll hb)
      replace HOx1 := Lib.hid (HOx1.out.belowAll hb)
      clear hb
      go_wp2_with fail
      refine (eqPointS_yes Ax1 Ay cx1 cy l1 l1 _ (HOx1.out.seesAll elPoint) (HOy.out.seesAll elPoint) rfl (by omega)).mono ?_
      rintro e v12 ⟨rfl, hb⟩
      have hz12 := hb.size
      replace HV := Lib.hid (HV.out.next hb)
      replace HOx0 := Lib.hid (HOx0.out.belowAll hb)
      replace HOx1 := Lib.hid (HOx1.out.belowAll hb)
      replace HOy := Lib.hid (HOy.out.belowAll hb)
      clear hb
      clear HOy
      go_wp2
      go_ret
      exact ⟨rfl, HV.out.1⟩
    · go_wp2_with fail
      refine (szPointS_no pa1 l1.length cap1 (1048576 - (l0.length : Int)) _ (by omega) (by omega) (by omega)).mono ?_
      rintro e w9 ⟨rfl, rfl⟩
      go_wp2
      go_ret
      exact ⟨rfl, HV.out.1⟩
  · go_wp2_with fail
    refine (szPointS_no pa0 l0.length cap0 (1048576) _ (by omega) (by omega) (by omega)).mono ?_
    rintro e w9 ⟨rfl, rfl⟩
    go_wp2
    go_ret
    exact ⟨rfl, HV.out.1⟩
end Go.Proofs.Ytpbmngbigdaklaa
