/- The laws of chapter 3 on ciphers and on keys out of strings: their walks. -/
import Derived.Test.YtalghkfkeaogfaaCipher
import Derived.Test.YtalghkfkeaogfaaSCipher
import Derived.Test.YtalghkfkeaogfaaStr
import Derived.Test.YtalghkfkeaogfaaDrawCrypt
namespace Go.Proofs.Ytalghkfkeaogfaa
open Go.RowKit
set_option linter.unusedVariables false

set_option maxRecDepth 100000 in
set_option maxHeartbeats 1000000 in
theorem law_enc (a0 : Int) (a1 : Option Addr) (len1 cap1 : Nat) (z1 : List Int) (w : World) (w0 : (Lit.int .i64 a0).wf = true) (w1 : IsRow .u8 w a1 len1 cap1 z1) :
    Calls Try.prog 9 #[.int .i64 a0, .slice a1 len1 cap1] w fun e w' => e = .returned (.bool true) ∧ Below w.heap.size w w' := by
  have hf0 := off_wf w0
  clear w0
  obtain ⟨l1, rfl, hs1, hmax1, hwf1⟩ := row_sees w1
  have HS1 := Lib.hid hs1; clear hs1
  have HW1 : Hid (B8 l1) := Lib.hid (bytes_wf hwf1)
  clear w1 hwf1
  by_cases hbig1 : 1048576 < l1.length
  · go_enter Try.func9, Try.ntmps9
    go_wp2
    go_ret
    exact ⟨rfl, Below.refl _ _⟩
  go_enter Try.func9, Try.ntmps9
  have HB := Lib.hid (Below.refl w.heap.size w)
  have hlot1 : w.heap.size ≤ w.heap.size := HB.out.size
  go_wp2_with fail
  refine (toByteS_any a1 cap1 l1 _ ((HS1.out.below HB.out).mono HB.out.size) (by omega)).mono ?_
  rintro e wt1 ⟨At1, ct1, Lt1, HLt1, rfl, hot1, hbt1⟩
  obtain rfl : l1 = Lt1 := HLt1.out.symm; clear HLt1
  have HBn := Lib.hid (HB.out.trans (hbt1.mono HB.out.size)); clear HB; have HB := HBn; clear HBn
  have HOt1 := Lib.hid hot1.held; have hzt1 := hbt1.size; clear hot1 hbt1
  have hloS : w.heap.size ≤ wt1.heap.size := HB.out.size
  go_wp2_with fail
  refine (senc_any a0 At1 ct1 l1 _ HOt1.out.seesAll HW1.out (by omega)).mono ?_
  rintro e wS ⟨AS, cS, LS, HLS, he, hoS, hbS⟩
  subst he
  have hnS : LS.length ≤ 17592186044416 := by rw [HLS.out]; rw [encL_len]; omega
  have HBn := Lib.hid (HB.out.trans (hbS.mono HB.out.size)); clear HB; have HB := HBn; clear HBn
  have HOn := Lib.hid (HOt1.out.belowAll hbS); clear HOt1; have HOt1 := HOn; clear HOn
  have HOS := Lib.hid hoS.held; have hzS := hbS.size; clear hoS hbS
  have hlox1 : w.heap.size ≤ wS.heap.size := HB.out.size
  go_wp2_with fail
  refine (toByteS_any a1 cap1 l1 _ ((HS1.out.below HB.out).mono HB.out.size) (by omega)).mono ?_
  rintro e wx1 ⟨Ax1, cx1, Lx1, HLx1, rfl, hox1, hbx1⟩
  obtain rfl : l1 = Lx1 := HLx1.out.symm; clear HLx1
  have HBn := Lib.hid (HB.out.trans (hbx1.mono HB.out.size)); clear HB; have HB := HBn; clear HBn
  have HOn := Lib.hid (HOt1.out.belowAll hbx1); clear HOt1; have HOt1 := HOn; clear HOn
  have HOn := Lib.hid (HOS.out.belowAll hbx1); clear HOS; have HOS := HOn; clear HOn
  have HOx1 := Lib.hid hox1.held; have hzx1 := hbx1.size; clear hox1 hbx1
  have hloG : w.heap.size ≤ wx1.heap.size := HB.out.size
  go_wp2_with fail
  refine (enc_any a0 Ax1 cx1 l1 _ HOx1.out.seesAll HW1.out (by omega)).mono ?_
  rintro e wG ⟨AG, cG, LG, HLG, he, hoG, hbG⟩
  subst he
  have hnG : LG.length ≤ 17592186044416 := by rw [HLG.out]; rw [encL_len]; omega
  have HBn := Lib.hid (HB.out.trans (hbG.mono HB.out.size)); clear HB; have HB := HBn; clear HBn
  have HOn := Lib.hid (HOt1.out.belowAll hbG); clear HOt1; have HOt1 := HOn; clear HOn
  have HOn := Lib.hid (HOS.out.belowAll hbG); clear HOS; have HOS := HOn; clear HOn
  have HOn := Lib.hid (HOx1.out.belowAll hbG); clear HOx1; have HOx1 := HOn; clear HOn
  have HOG := Lib.hid hoG.held; have hzG := hbG.size; clear hoG hbG
  go_wp2_with fail
  refine (eqByteS_yes AG AS cG cS _ _ LG LS _ HOG.out.seesAll HOS.out.seesAll (HLG.out.trans HLS.out.symm) (by omega)).mono ?_
  rintro e we1 ⟨rfl, hbe1⟩
  have HBn := Lib.hid (HB.out.trans (hbe1.mono HB.out.size)); clear HB; have HB := HBn; clear HBn
  have HOn := Lib.hid (HOt1.out.belowAll hbe1); clear HOt1; have HOt1 := HOn; clear HOn
  have HOn := Lib.hid (HOS.out.belowAll hbe1); clear HOS; have HOS := HOn; clear HOn
  have HOn := Lib.hid (HOx1.out.belowAll hbe1); clear HOx1; have HOx1 := HOn; clear HOn
  have HOn := Lib.hid (HOG.out.belowAll hbe1); clear HOG; have HOG := HOn; clear HOn
  have hze1 := hbe1.size; clear hbe1
  have hloy1 : w.heap.size ≤ we1.heap.size := HB.out.size
  go_wp2_with fail
  refine (toByteS_any a1 cap1 l1 _ ((HS1.out.below HB.out).mono HB.out.size) (by omega)).mono ?_
  rintro e wy1 ⟨Ay1, cy1, Ly1, HLy1, rfl, hoy1, hby1⟩
  obtain rfl : l1 = Ly1 := HLy1.out.symm; clear HLy1
  have HBn := Lib.hid (HB.out.trans (hby1.mono HB.out.size)); clear HB; have HB := HBn; clear HBn
  have HOn := Lib.hid (HOt1.out.belowAll hby1); clear HOt1; have HOt1 := HOn; clear HOn
  have HOn := Lib.hid (HOS.out.belowAll hby1); clear HOS; have HOS := HOn; clear HOn
  have HOn := Lib.hid (HOx1.out.belowAll hby1); clear HOx1; have HOx1 := HOn; clear HOn
  have HOn := Lib.hid (HOG.out.belowAll hby1); clear HOG; have HOG := HOn; clear HOn
  have HOy1 := Lib.hid hoy1.held; have hzy1 := hby1.size; clear hoy1 hby1
  go_wp2_with fail
  refine (eqByteS_yes Ax1 Ay1 cx1 cy1 _ _ l1 l1 _ HOx1.out.seesAll HOy1.out.seesAll (rfl) (by omega)).mono ?_
  rintro e we2 ⟨rfl, hbe2⟩
  have HBn := Lib.hid (HB.out.trans (hbe2.mono HB.out.size)); clear HB; have HB := HBn; clear HBn
  have HOn := Lib.hid (HOt1.out.belowAll hbe2); clear HOt1; have HOt1 := HOn; clear HOn
  have HOn := Lib.hid (HOS.out.belowAll hbe2); clear HOS; have HOS := HOn; clear HOn
  have HOn := Lib.hid (HOx1.out.belowAll hbe2); clear HOx1; have HOx1 := HOn; clear HOn
  have HOn := Lib.hid (HOG.out.belowAll hbe2); clear HOG; have HOG := HOn; clear HOn
  have HOn := Lib.hid (HOy1.out.belowAll hbe2); clear HOy1; have HOy1 := HOn; clear HOn
  have hze2 := hbe2.size; clear hbe2
  go_wp2_with fail
  refine (markByteS_held Ax1 l1.length cx1 1 _ _ l1 _ HOx1.out rfl (by omega) (by omega)).mono ?_
  rintro e wm3 ⟨k1, Hk1, rfl, hom3, hgm3⟩
  have hk1 := Hk1.out
  have hk1' : k1 ≤ 1 + l1.length := by omega
  clear hk1
  have HBn := Lib.hid (below_mark HB.out HOx1.out hlox1 hgm3 HB.out.size); clear HB; have HB := HBn; clear HBn
  have HOn := Lib.hid (HOt1.out.kept HOx1.out (by omega) hgm3); clear HOt1; have HOt1 := HOn; clear HOn
  have HOn := Lib.hid (HOS.out.kept HOx1.out (by omega) hgm3); clear HOS; have HOS := HOn; clear HOn
  have HOn := Lib.hid (HOG.out.kept HOx1.out (by omega) hgm3); clear HOG; have HOG := HOn; clear HOn
  have HOn := Lib.hid (HOy1.out.kept HOx1.out (by omega) hgm3); clear HOy1; have HOy1 := HOn; clear HOn
  clear HOx1; have HOx1 := Lib.hid hom3; have hzm3 := hgm3.size; clear hom3 hgm3
  go_wp2_with fail
  refine (eqByteS_yes AG AS cG cS _ _ LG LS _ HOG.out.seesAll HOS.out.seesAll (HLG.out.trans HLS.out.symm) (by omega)).mono ?_
  rintro e we4 ⟨rfl, hbe4⟩
  have HBn := Lib.hid (HB.out.trans (hbe4.mono HB.out.size)); clear HB; have HB := HBn; clear HBn
  have HOn := Lib.hid (HOt1.out.belowAll hbe4); clear HOt1; have HOt1 := HOn; clear HOn
  have HOn := Lib.hid (HOS.out.belowAll hbe4); clear HOS; have HOS := HOn; clear HOn
  have HOn := Lib.hid (HOx1.out.belowAll hbe4); clear HOx1; have HOx1 := HOn; clear HOn
  have HOn := Lib.hid (HOG.out.belowAll hbe4); clear HOG; have HOG := HOn; clear HOn
  have HOn := Lib.hid (HOy1.out.belowAll hbe4); clear HOy1; have HOy1 := HOn; clear HOn
  have hze4 := hbe4.size; clear hbe4
  go_wp2_with fail
  refine (markByteS_held AG LG.length cG 1 _ _ LG _ HOG.out rfl (by omega) (by omega)).mono ?_
  rintro e wm5 ⟨m0, Hm0, rfl, hom5, hgm5⟩
  have hm0 := Hm0.out
  have hm0' : m0 ≤ 1 + LG.length := by omega
  clear hm0
  have HBn := Lib.hid (below_mark HB.out HOG.out hloG hgm5 HB.out.size); clear HB; have HB := HBn; clear HBn
  have HOn := Lib.hid (HOt1.out.kept HOG.out (by omega) hgm5); clear HOt1; have HOt1 := HOn; clear HOn
  have HOn := Lib.hid (HOS.out.kept HOG.out (by omega) hgm5); clear HOS; have HOS := HOn; clear HOn
  have HOn := Lib.hid (HOx1.out.kept HOG.out (by omega) hgm5); clear HOx1; have HOx1 := HOn; clear HOn
  have HOn := Lib.hid (HOy1.out.kept HOG.out (by omega) hgm5); clear HOy1; have HOy1 := HOn; clear HOn
  clear HOG; have HOG := Lib.hid hom5; have hzm5 := hgm5.size; clear hom5 hgm5
  go_wp2_with fail
  refine (heldByteS_q AG LG.length cG 1 _ _ HOG.out.seesAll (by omega) (by omega)).mono ?_
  rintro e w' ⟨q0, Hq0, rfl, rfl⟩
  obtain rfl : m0 = q0 := Hm0.out.trans Hq0.out.symm
  have hlou1 : w.heap.size ≤ wm5.heap.size := HB.out.size
  go_wp2_with fail
  refine (toByteS_any a1 cap1 l1 _ ((HS1.out.below HB.out).mono HB.out.size) (by omega)).mono ?_
  rintro e wu1 ⟨Au1, cu1, Lu1, HLu1, rfl, hou1, hbu1⟩
  obtain rfl : l1 = Lu1 := HLu1.out.symm; clear HLu1
  have HBn := Lib.hid (HB.out.trans (hbu1.mono HB.out.size)); clear HB; have HB := HBn; clear HBn
  have HOn := Lib.hid (HOt1.out.belowAll hbu1); clear HOt1; have HOt1 := HOn; clear HOn
  have HOn := Lib.hid (HOS.out.belowAll hbu1); clear HOS; have HOS := HOn; clear HOn
  have HOn := Lib.hid (HOx1.out.belowAll hbu1); clear HOx1; have HOx1 := HOn; clear HOn
  have HOn := Lib.hid (HOG.out.belowAll hbu1); clear HOG; have HOG := HOn; clear HOn
  have HOn := Lib.hid (HOy1.out.belowAll hbu1); clear HOy1; have HOy1 := HOn; clear HOn
  have HOu1 := Lib.hid hou1.held; have hzu1 := hbu1.size; clear hou1 hbu1
  have hloH : w.heap.size ≤ wu1.heap.size := HB.out.size
  go_wp2_with fail
  refine (enc_any a0 Au1 cu1 l1 _ HOu1.out.seesAll HW1.out (by omega)).mono ?_
  rintro e wH ⟨AH, cH, LH, HLH, he, hoH, hbH⟩
  subst he
  have hnH : LH.length ≤ 17592186044416 := by rw [HLH.out]; rw [encL_len]; omega
  have HBn := Lib.hid (HB.out.trans (hbH.mono HB.out.size)); clear HB; have HB := HBn; clear HBn
  have HOn := Lib.hid (HOt1.out.belowAll hbH); clear HOt1; have HOt1 := HOn; clear HOn
  have HOn := Lib.hid (HOS.out.belowAll hbH); clear HOS; have HOS := HOn; clear HOn
  have HOn := Lib.hid (HOx1.out.belowAll hbH); clear HOx1; have HOx1 := HOn; clear HOn
  have HOn := Lib.hid (HOG.out.belowAll hbH); clear HOG; have HOG := HOn; clear HOn
  have HOn := Lib.hid (HOy1.out.belowAll hbH); clear HOy1; have HOy1 := HOn; clear HOn
  have HOn := Lib.hid (HOu1.out.belowAll hbH); clear HOu1; have HOu1 := HOn; clear HOn
  have HOH := Lib.hid hoH.held; have hzH := hbH.size; clear hoH hbH
  go_wp2_with fail
  refine (eqByteS_yes AH AS cH cS _ _ LH LS _ HOH.out.seesAll HOS.out.seesAll (HLH.out.trans HLS.out.symm) (by omega)).mono ?_
  rintro e we6 ⟨rfl, hbe6⟩
  have HBn := Lib.hid (HB.out.trans (hbe6.mono HB.out.size)); clear HB; have HB := HBn; clear HBn
  have HOn := Lib.hid (HOt1.out.belowAll hbe6); clear HOt1; have HOt1 := HOn; clear HOn
  have HOn := Lib.hid (HOS.out.belowAll hbe6); clear HOS; have HOS := HOn; clear HOn
  have HOn := Lib.hid (HOx1.out.belowAll hbe6); clear HOx1; have HOx1 := HOn; clear HOn
  have HOn := Lib.hid (HOG.out.belowAll hbe6); clear HOG; have HOG := HOn; clear HOn
  have HOn := Lib.hid (HOy1.out.belowAll hbe6); clear HOy1; have HOy1 := HOn; clear HOn
  have HOn := Lib.hid (HOu1.out.belowAll hbe6); clear HOu1; have HOu1 := HOn; clear HOn
  have HOn := Lib.hid (HOH.out.belowAll hbe6); clear HOH; have HOH := HOn; clear HOn
  have hze6 := hbe6.size; clear hbe6
  go_wp2_with fail
  refine (heldByteS_q AG LG.length cG 1 _ _ HOG.out.seesAll (by omega) (by omega)).mono ?_
  rintro e w' ⟨q1, Hq1, rfl, rfl⟩
  obtain rfl : m0 = q1 := Hm0.out.trans Hq1.out.symm
  go_wp2
  go_ret
  exact ⟨rfl, HB.out⟩
set_option maxRecDepth 100000 in
set_option maxHeartbeats 1000000 in
theorem law_decr (a0 : Int) (a1 : Option Addr) (len1 cap1 : Nat) (z1 : List Int) (w : World) (w0 : (Lit.int .i64 a0).wf = true) (w1 : IsRow .u8 w a1 len1 cap1 z1) :
    Calls Try.prog 10 #[.int .i64 a0, .slice a1 len1 cap1] w fun e w' => e = .returned (.bool true) ∧ Below w.heap.size w w' := by
  have hf0 := off_wf w0
  clear w0
  obtain ⟨l1, rfl, hs1, hmax1, hwf1⟩ := row_sees w1
  have HS1 := Lib.hid hs1; clear hs1
  have HW1 : Hid (B8 l1) := Lib.hid (bytes_wf hwf1)
  clear w1 hwf1
  by_cases hbig1 : 1048576 < l1.length
  · go_enter Try.func10, Try.ntmps10
    go_wp2
    go_ret
    exact ⟨rfl, Below.refl _ _⟩
  go_enter Try.func10, Try.ntmps10
  have HB := Lib.hid (Below.refl w.heap.size w)
  have hlot1 : w.heap.size ≤ w.heap.size := HB.out.size
  go_wp2_with fail
  refine (toByteS_any a1 cap1 l1 _ ((HS1.out.below HB.out).mono HB.out.size) (by omega)).mono ?_
  rintro e wt1 ⟨At1, ct1, Lt1, HLt1, rfl, hot1, hbt1⟩
  obtain rfl : l1 = Lt1 := HLt1.out.symm; clear HLt1
  have HBn := Lib.hid (HB.out.trans (hbt1.mono HB.out.size)); clear HB; have HB := HBn; clear HBn
  have HOt1 := Lib.hid hot1.held; have hzt1 := hbt1.size; clear hot1 hbt1
  have hloS : w.heap.size ≤ wt1.heap.size := HB.out.size
  go_wp2_with fail
  refine (sdecr_any a0 At1 ct1 l1 _ HOt1.out.seesAll HW1.out (by omega)).mono ?_
  rintro e wS ⟨AS, cS, LS, HLS, he, hoS, hbS⟩
  subst he
  have hnS : LS.length ≤ 17592186044416 := by rw [HLS.out]; rw [decL_len]; omega
  have HBn := Lib.hid (HB.out.trans (hbS.mono HB.out.size)); clear HB; have HB := HBn; clear HBn
  have HOn := Lib.hid (HOt1.out.belowAll hbS); clear HOt1; have HOt1 := HOn; clear HOn
  have HOS := Lib.hid hoS.held; have hzS := hbS.size; clear hoS hbS
  have hlox1 : w.heap.size ≤ wS.heap.size := HB.out.size
  go_wp2_with fail
  refine (toByteS_any a1 cap1 l1 _ ((HS1.out.below HB.out).mono HB.out.size) (by omega)).mono ?_
  rintro e wx1 ⟨Ax1, cx1, Lx1, HLx1, rfl, hox1, hbx1⟩
  obtain rfl : l1 = Lx1 := HLx1.out.symm; clear HLx1
  have HBn := Lib.hid (HB.out.trans (hbx1.mono HB.out.size)); clear HB; have HB := HBn; clear HBn
  have HOn := Lib.hid (HOt1.out.belowAll hbx1); clear HOt1; have HOt1 := HOn; clear HOn
  have HOn := Lib.hid (HOS.out.belowAll hbx1); clear HOS; have HOS := HOn; clear HOn
  have HOx1 := Lib.hid hox1.held; have hzx1 := hbx1.size; clear hox1 hbx1
  have hloG : w.heap.size ≤ wx1.heap.size := HB.out.size
  go_wp2_with fail
  refine (dec_any a0 Ax1 cx1 l1 _ HOx1.out.seesAll HW1.out (by omega)).mono ?_
  rintro e wG ⟨AG, cG, LG, HLG, he, hoG, hbG⟩
  subst he
  have hnG : LG.length ≤ 17592186044416 := by rw [HLG.out]; rw [decL_len]; omega
  have HBn := Lib.hid (HB.out.trans (hbG.mono HB.out.size)); clear HB; have HB := HBn; clear HBn
  have HOn := Lib.hid (HOt1.out.belowAll hbG); clear HOt1; have HOt1 := HOn; clear HOn
  have HOn := Lib.hid (HOS.out.belowAll hbG); clear HOS; have HOS := HOn; clear HOn
  have HOn := Lib.hid (HOx1.out.belowAll hbG); clear HOx1; have HOx1 := HOn; clear HOn
  have HOG := Lib.hid hoG.held; have hzG := hbG.size; clear hoG hbG
  go_wp2_with fail
  refine (eqByteS_yes AG AS cG cS _ _ LG LS _ HOG.out.seesAll HOS.out.seesAll (HLG.out.trans HLS.out.symm) (by omega)).mono ?_
  rintro e we1 ⟨rfl, hbe1⟩
  have HBn := Lib.hid (HB.out.trans (hbe1.mono HB.out.size)); clear HB; have HB := HBn; clear HBn
  have HOn := Lib.hid (HOt1.out.belowAll hbe1); clear HOt1; have HOt1 := HOn; clear HOn
  have HOn := Lib.hid (HOS.out.belowAll hbe1); clear HOS; have HOS := HOn; clear HOn
  have HOn := Lib.hid (HOx1.out.belowAll hbe1); clear HOx1; have HOx1 := HOn; clear HOn
  have HOn := Lib.hid (HOG.out.belowAll hbe1); clear HOG; have HOG := HOn; clear HOn
  have hze1 := hbe1.size; clear hbe1
  have hloy1 : w.heap.size ≤ we1.heap.size := HB.out.size
  go_wp2_with fail
  refine (toByteS_any a1 cap1 l1 _ ((HS1.out.below HB.out).mono HB.out.size) (by omega)).mono ?_
  rintro e wy1 ⟨Ay1, cy1, Ly1, HLy1, rfl, hoy1, hby1⟩
  obtain rfl : l1 = Ly1 := HLy1.out.symm; clear HLy1
  have HBn := Lib.hid (HB.out.trans (hby1.mono HB.out.size)); clear HB; have HB := HBn; clear HBn
  have HOn := Lib.hid (HOt1.out.belowAll hby1); clear HOt1; have HOt1 := HOn; clear HOn
  have HOn := Lib.hid (HOS.out.belowAll hby1); clear HOS; have HOS := HOn; clear HOn
  have HOn := Lib.hid (HOx1.out.belowAll hby1); clear HOx1; have HOx1 := HOn; clear HOn
  have HOn := Lib.hid (HOG.out.belowAll hby1); clear HOG; have HOG := HOn; clear HOn
  have HOy1 := Lib.hid hoy1.held; have hzy1 := hby1.size; clear hoy1 hby1
  go_wp2_with fail
  refine (eqByteS_yes Ax1 Ay1 cx1 cy1 _ _ l1 l1 _ HOx1.out.seesAll HOy1.out.seesAll (rfl) (by omega)).mono ?_
  rintro e we2 ⟨rfl, hbe2⟩
  have HBn := Lib.hid (HB.out.trans (hbe2.mono HB.out.size)); clear HB; have HB := HBn; clear HBn
  have HOn := Lib.hid (HOt1.out.belowAll hbe2); clear HOt1; have HOt1 := HOn; clear HOn
  have HOn := Lib.hid (HOS.out.belowAll hbe2); clear HOS; have HOS := HOn; clear HOn
  have HOn := Lib.hid (HOx1.out.belowAll hbe2); clear HOx1; have HOx1 := HOn; clear HOn
  have HOn := Lib.hid (HOG.out.belowAll hbe2); clear HOG; have HOG := HOn; clear HOn
  have HOn := Lib.hid (HOy1.out.belowAll hbe2); clear HOy1; have HOy1 := HOn; clear HOn
  have hze2 := hbe2.size; clear hbe2
  go_wp2_with fail
  refine (markByteS_held Ax1 l1.length cx1 1 _ _ l1 _ HOx1.out rfl (by omega) (by omega)).mono ?_
  rintro e wm3 ⟨k1, Hk1, rfl, hom3, hgm3⟩
  have hk1 := Hk1.out
  have hk1' : k1 ≤ 1 + l1.length := by omega
  clear hk1
  have HBn := Lib.hid (below_mark HB.out HOx1.out hlox1 hgm3 HB.out.size); clear HB; have HB := HBn; clear HBn
  have HOn := Lib.hid (HOt1.out.kept HOx1.out (by omega) hgm3); clear HOt1; have HOt1 := HOn; clear HOn
  have HOn := Lib.hid (HOS.out.kept HOx1.out (by omega) hgm3); clear HOS; have HOS := HOn; clear HOn
  have HOn := Lib.hid (HOG.out.kept HOx1.out (by omega) hgm3); clear HOG; have HOG := HOn; clear HOn
  have HOn := Lib.hid (HOy1.out.kept HOx1.out (by omega) hgm3); clear HOy1; have HOy1 := HOn; clear HOn
  clear HOx1; have HOx1 := Lib.hid hom3; have hzm3 := hgm3.size; clear hom3 hgm3
  go_wp2_with fail
  refine (eqByteS_yes AG AS cG cS _ _ LG LS _ HOG.out.seesAll HOS.out.seesAll (HLG.out.trans HLS.out.symm) (by omega)).mono ?_
  rintro e we4 ⟨rfl, hbe4⟩
  have HBn := Lib.hid (HB.out.trans (hbe4.mono HB.out.size)); clear HB; have HB := HBn; clear HBn
  have HOn := Lib.hid (HOt1.out.belowAll hbe4); clear HOt1; have HOt1 := HOn; clear HOn
  have HOn := Lib.hid (HOS.out.belowAll hbe4); clear HOS; have HOS := HOn; clear HOn
  have HOn := Lib.hid (HOx1.out.belowAll hbe4); clear HOx1; have HOx1 := HOn; clear HOn
  have HOn := Lib.hid (HOG.out.belowAll hbe4); clear HOG; have HOG := HOn; clear HOn
  have HOn := Lib.hid (HOy1.out.belowAll hbe4); clear HOy1; have HOy1 := HOn; clear HOn
  have hze4 := hbe4.size; clear hbe4
  go_wp2_with fail
  refine (markByteS_held AG LG.length cG 1 _ _ LG _ HOG.out rfl (by omega) (by omega)).mono ?_
  rintro e wm5 ⟨m0, Hm0, rfl, hom5, hgm5⟩
  have hm0 := Hm0.out
  have hm0' : m0 ≤ 1 + LG.length := by omega
  clear hm0
  have HBn := Lib.hid (below_mark HB.out HOG.out hloG hgm5 HB.out.size); clear HB; have HB := HBn; clear HBn
  have HOn := Lib.hid (HOt1.out.kept HOG.out (by omega) hgm5); clear HOt1; have HOt1 := HOn; clear HOn
  have HOn := Lib.hid (HOS.out.kept HOG.out (by omega) hgm5); clear HOS; have HOS := HOn; clear HOn
  have HOn := Lib.hid (HOx1.out.kept HOG.out (by omega) hgm5); clear HOx1; have HOx1 := HOn; clear HOn
  have HOn := Lib.hid (HOy1.out.kept HOG.out (by omega) hgm5); clear HOy1; have HOy1 := HOn; clear HOn
  clear HOG; have HOG := Lib.hid hom5; have hzm5 := hgm5.size; clear hom5 hgm5
  go_wp2_with fail
  refine (heldByteS_q AG LG.length cG 1 _ _ HOG.out.seesAll (by omega) (by omega)).mono ?_
  rintro e w' ⟨q0, Hq0, rfl, rfl⟩
  obtain rfl : m0 = q0 := Hm0.out.trans Hq0.out.symm
  have hlou1 : w.heap.size ≤ wm5.heap.size := HB.out.size
  go_wp2_with fail
  refine (toByteS_any a1 cap1 l1 _ ((HS1.out.below HB.out).mono HB.out.size) (by omega)).mono ?_
  rintro e wu1 ⟨Au1, cu1, Lu1, HLu1, rfl, hou1, hbu1⟩
  obtain rfl : l1 = Lu1 := HLu1.out.symm; clear HLu1
  have HBn := Lib.hid (HB.out.trans (hbu1.mono HB.out.size)); clear HB; have HB := HBn; clear HBn
  have HOn := Lib.hid (HOt1.out.belowAll hbu1); clear HOt1; have HOt1 := HOn; clear HOn
  have HOn := Lib.hid (HOS.out.belowAll hbu1); clear HOS; have HOS := HOn; clear HOn
  have HOn := Lib.hid (HOx1.out.belowAll hbu1); clear HOx1; have HOx1 := HOn; clear HOn
  have HOn := Lib.hid (HOG.out.belowAll hbu1); clear HOG; have HOG := HOn; clear HOn
  have HOn := Lib.hid (HOy1.out.belowAll hbu1); clear HOy1; have HOy1 := HOn; clear HOn
  have HOu1 := Lib.hid hou1.held; have hzu1 := hbu1.size; clear hou1 hbu1
  have hloH : w.heap.size ≤ wu1.heap.size := HB.out.size
  go_wp2_with fail
  refine (dec_any a0 Au1 cu1 l1 _ HOu1.out.seesAll HW1.out (by omega)).mono ?_
  rintro e wH ⟨AH, cH, LH, HLH, he, hoH, hbH⟩
  subst he
  have hnH : LH.length ≤ 17592186044416 := by rw [HLH.out]; rw [decL_len]; omega
  have HBn := Lib.hid (HB.out.trans (hbH.mono HB.out.size)); clear HB; have HB := HBn; clear HBn
  have HOn := Lib.hid (HOt1.out.belowAll hbH); clear HOt1; have HOt1 := HOn; clear HOn
  have HOn := Lib.hid (HOS.out.belowAll hbH); clear HOS; have HOS := HOn; clear HOn
  have HOn := Lib.hid (HOx1.out.belowAll hbH); clear HOx1; have HOx1 := HOn; clear HOn
  have HOn := Lib.hid (HOG.out.belowAll hbH); clear HOG; have HOG := HOn; clear HOn
  have HOn := Lib.hid (HOy1.out.belowAll hbH); clear HOy1; have HOy1 := HOn; clear HOn
  have HOn := Lib.hid (HOu1.out.belowAll hbH); clear HOu1; have HOu1 := HOn; clear HOn
  have HOH := Lib.hid hoH.held; have hzH := hbH.size; clear hoH hbH
  go_wp2_with fail
  refine (eqByteS_yes AH AS cH cS _ _ LH LS _ HOH.out.seesAll HOS.out.seesAll (HLH.out.trans HLS.out.symm) (by omega)).mono ?_
  rintro e we6 ⟨rfl, hbe6⟩
  have HBn := Lib.hid (HB.out.trans (hbe6.mono HB.out.size)); clear HB; have HB := HBn; clear HBn
  have HOn := Lib.hid (HOt1.out.belowAll hbe6); clear HOt1; have HOt1 := HOn; clear HOn
  have HOn := Lib.hid (HOS.out.belowAll hbe6); clear HOS; have HOS := HOn; clear HOn
  have HOn := Lib.hid (HOx1.out.belowAll hbe6); clear HOx1; have HOx1 := HOn; clear HOn
  have HOn := Lib.hid (HOG.out.belowAll hbe6); clear HOG; have HOG := HOn; clear HOn
  have HOn := Lib.hid (HOy1.out.belowAll hbe6); clear HOy1; have HOy1 := HOn; clear HOn
  have HOn := Lib.hid (HOu1.out.belowAll hbe6); clear HOu1; have HOu1 := HOn; clear HOn
  have HOn := Lib.hid (HOH.out.belowAll hbe6); clear HOH; have HOH := HOn; clear HOn
  have hze6 := hbe6.size; clear hbe6
  go_wp2_with fail
  refine (heldByteS_q AG LG.length cG 1 _ _ HOG.out.seesAll (by omega) (by omega)).mono ?_
  rintro e w' ⟨q1, Hq1, rfl, rfl⟩
  obtain rfl : m0 = q1 := Hm0.out.trans Hq1.out.symm
  go_wp2
  go_ret
  exact ⟨rfl, HB.out⟩
set_option maxRecDepth 100000 in
theorem law_derive (k : Int) (s : ByteArray) (w : World) :
    Calls Try.prog 11 #[.int .i64 k, .string s] w fun e w' => e = .returned (.bool true) ∧ Below w.heap.size w w' := by
  obtain ⟨r, hr⟩ : ∃ r, DKey k s = r := ⟨_, rfl⟩
  by_cases hbig : 1048576 < s.size
  · go_enter Try.func11, Try.ntmps11
    go_wp2
    go_ret
    exact ⟨rfl, Below.refl _ _⟩
  · go_enter Try.func11, Try.ntmps11
    go_wp2_with fail
    refine (sder_any k r s _ (by omega) hr).mono ?_
    rintro e w1 ⟨rfl, hb1⟩
    go_wp2_with fail
    refine (der_any k r s _ (by omega) hr).mono ?_
    rintro e w2 ⟨rfl, hb2⟩
    go_wp2
    go_ret
    exact ⟨rfl, hb1.trans (hb2.mono hb1.size)⟩
theorem encL_B8 (k : Int) (l : List Int) : B8 (encL k l) := by
  intro x hx
  obtain ⟨i, hi, rfl⟩ := List.mem_mapIdx.1 hx
  exact encB_bd _ _ _
theorem decL_B8 (k : Int) (l : List Int) : B8 (decL k l) := by
  intro x hx
  obtain ⟨i, hi, rfl⟩ := List.mem_mapIdx.1 hx
  exact decB_bd _ _ _
set_option maxRecDepth 100000 in
set_option maxHeartbeats 1000000 in
theorem law_cipher (a0 : Option Addr) (len0 cap0 : Nat) (z0 : List Int) (w : World) (w0 : IsRow .u8 w a0 len0 cap0 z0) :
    Calls Try.prog 3 #[.slice a0 len0 cap0] w fun e w' => e = .returned (.bool true) ∧ Below w.heap.size w w' := by
  have hcd := code_of_row w0
  clear w0
  have HCD := Lib.hid hcd
  have hlen := hcd.1
  clear hcd
  by_cases hbig : 1048576 < len0
  · go_enter Try.func3, Try.ntmps3
    go_wp2_with fail
    refine (big_yes a0 len0 cap0 _ hbig).mono ?_
    rintro e w0 ⟨rfl, rfl⟩
    go_wp2
    go_ret
    exact ⟨rfl, Below.refl _ _⟩
  · go_enter Try.func3, Try.ntmps3
    go_wp2_with fail
    refine (big_no a0 len0 cap0 _ (by omega)).mono ?_
    rintro e w0 ⟨rfl, rfl⟩
    go_wp2_with fail
    refine (drawEncrypt_any a0 len0 cap0 _ _ HCD.out).mono ?_
    rintro e w1 ⟨A1, c1, L, k, hk0, hk1, h8, hL, rfl, ho1, hb1⟩
    have H8 : Hid (B8 L) := Lib.hid h8
    have HB1 := Lib.hid hb1; have HO1 := Lib.hid ho1
    clear h8 hb1 ho1
    go_wp2_with fail
    refine (enc_any k A1 c1 L _ HO1.out.sees H8.out (by omega)).mono ?_
    rintro e w2 ⟨A2, c2, X, HX, rfl, ho2, hb2⟩
    have HX8 : Hid (B8 X) := Lib.hid (by rw [HX.out]; exact encL_B8 _ _)
    have hXl : X.length ≤ 7 := by rw [HX.out, encL_len]; exact hL
    have HB2 := Lib.hid (HB1.out.trans (hb2.mono HB1.out.size)); have HO2 := Lib.hid ho2; have HO1a := Lib.hid (HO1.out.belowAll hb2)
    clear ho2 hb2 HO1
    go_wp2_with fail
    refine (dec_any k A2 c2 X _ HO2.out.sees HX8.out (by omega)).mono ?_
    rintro e w3 ⟨A3, c3, Y, HY, rfl, ho3, hb3⟩
    have HYL : Hid (Y = L) := Lib.hid (by rw [HY.out, HX.out]; exact decL_encL H8.out)
    have hYl : Y.length ≤ 7 := by rw [HYL.out]; exact hL
    have HB3 := Lib.hid (HB2.out.trans (hb3.mono HB2.out.size)); have HO3 := Lib.hid ho3; have HO1b := Lib.hid (HO1a.out.belowAll hb3)
    clear ho3 hb3 HO1a HO2
    go_wp2_with fail
    refine (sameBytes_yes A3 A1 c3 c1 _ _ Y L _ HO3.out.sees HO1b.out.sees HYL.out (by omega)).mono ?_
    rintro e w4 ⟨rfl, hb4⟩
    have HB4 := Lib.hid (HB3.out.trans (hb4.mono HB3.out.size)); have HO1c := Lib.hid (HO1b.out.belowAll hb4)
    clear hb4 HO1b HO3
    go_wp2_with fail
    refine (dec_any k A1 c1 L _ HO1c.out.sees H8.out (by omega)).mono ?_
    rintro e w5 ⟨A5, c5, X5, HX5, rfl, ho5, hb5⟩
    have HX58 : Hid (B8 X5) := Lib.hid (by rw [HX5.out]; exact decL_B8 _ _)
    have hX5l : X5.length ≤ 7 := by rw [HX5.out, decL_len]; exact hL
    have HB5 := Lib.hid (HB4.out.trans (hb5.mono HB4.out.size)); have HO5 := Lib.hid ho5; have HO1d := Lib.hid (HO1c.out.belowAll hb5)
    clear ho5 hb5 HO1c
    go_wp2_with fail
    refine (enc_any k A5 c5 X5 _ HO5.out.sees HX58.out (by omega)).mono ?_
    rintro e w6 ⟨A6, c6, Y6, HY6, rfl, ho6, hb6⟩
    have HYL6 : Hid (Y6 = L) := Lib.hid (by rw [HY6.out, HX5.out]; exact encL_decL H8.out)
    have hY6l : Y6.length ≤ 7 := by rw [HYL6.out]; exact hL
    have HB6 := Lib.hid (HB5.out.trans (hb6.mono HB5.out.size)); have HO6 := Lib.hid ho6; have HO1e := Lib.hid (HO1d.out.belowAll hb6)
    clear ho6 hb6 HO1d HO5
    go_wp2_with fail
    refine (sameBytes_yes A6 A1 c6 c1 _ _ Y6 L _ HO6.out.sees HO1e.out.sees HYL6.out (by omega)).mono ?_
    rintro e w7 ⟨rfl, hb7⟩
    have HB7 := Lib.hid (HB6.out.trans (hb7.mono HB6.out.size)); have HO1f := Lib.hid (HO1e.out.belowAll hb7)
    clear hb7 HO1e HO6
    go_wp2_with fail
    refine (enc_any k A1 c1 L _ HO1f.out.sees H8.out (by omega)).mono ?_
    rintro e w8 ⟨A8, c8, X8, HX8, rfl, ho8, hb8⟩
    have hx8l : X8.length = L.length := by rw [HX8.out, encL_len]
    go_wp2
    go_ret
    exact ⟨rfl, HB7.out.trans (hb8.mono HB7.out.size)⟩
theorem set_ne {k h h2 z x n : Int} {L : List Int} {i : Nat} (hh : h = khv k L) (hh2 : h2 = khv k (L.set i z)) (hx : L[i]? = some x) (hz : z = (IntKind.i64.wrap (IntKind.i64.wrap (x + 1) + n)) % 2147483647) (h3 : W3 L) (h0 : 0 ≤ n) (h1 : n ≤ 255) : h2 ≠ h := by
  have hx3 := h3 x (List.mem_of_getElem? hx)
  have e1 : IntKind.i64.wrap (x + 1) = x + 1 := by rw [IntKind.wrap_i64]; omega
  have e2 : IntKind.i64.wrap (x + 1 + n) = x + 1 + n := by rw [IntKind.wrap_i64]; omega
  rw [e1, e2] at hz
  rw [hh, hh2]
  exact khv_set hx (by omega)
set_option maxRecDepth 100000 in
set_option maxHeartbeats 2000000 in
theorem law_keyedHash (a0 : Option Addr) (len0 cap0 : Nat) (z0 : List Int) (w : World) (w0 : IsRow .u8 w a0 len0 cap0 z0) :
    Calls Try.prog 4 #[.slice a0 len0 cap0] w fun e w' => e = .returned (.bool true) ∧ Below w.heap.size w w' := by
  obtain ⟨l, rfl, hs, hmax, hwf⟩ := row_sees w0
  have hcd := code_of_row w0
  have HL8 : Hid (B8 l) := Lib.hid (bytes_wf hwf)
  clear w0 hwf
  have HCD := Lib.hid hcd; clear hcd
  have HS := Lib.hid hs; clear hs
  by_cases hbig : 1048576 < l.length
  · go_enter Try.func4, Try.ntmps4
    go_wp2_with fail
    refine (big_yes a0 _ cap0 _ hbig).mono ?_
    rintro e w0 ⟨rfl, rfl⟩
    go_wp2
    go_ret
    exact ⟨rfl, Below.refl _ _⟩
  · go_enter Try.func4, Try.ntmps4
    go_wp2_with fail
    refine (big_no a0 _ cap0 _ (by omega)).mono ?_
    rintro e w0 ⟨rfl, rfl⟩
    go_wp2_with fail
    refine (drawKeyed_any a0 _ cap0 _ _ HCD.out).mono ?_
    rintro e w1 ⟨A1, c1, L, k, hk0, hk1, h3, hL, rfl, ho1, hb1⟩
    have H3 : Hid (W3 L) := Lib.hid h3
    have HB1 := Lib.hid hb1; have HO1 := Lib.hid ho1
    clear h3 hb1 ho1
    go_wp2_with fail
    refine (keyed_any k A1 _ c1 _ L _ HO1.out.sees (Nat.le_refl _) rfl (by omega)).mono ?_
    rintro e w2 ⟨h, hh, h0, h1, rfl, hb2⟩
    have HB2 := Lib.hid (HB1.out.trans (hb2.mono HB1.out.size)); have HO2 := Lib.hid (HO1.out.belowAll hb2)
    have hz2 := HB2.out.size
    have hq : (decide (h < 0) || decide (2147483647 ≤ h)) = false := by simp; omega
    clear hb2 HO1
    go_wp2_with (at_builtin; first
      | (refine app64_w _ (by simp [Region.wanted, yielded]) _ _ rfl w2.heap.size _ [k] rfl (own_lit1 w2 w2.heap.size 3 .i64 k (Nat.le_refl _)) w2.heap.size A1 _ c1 L rfl rfl (HO2.out.sees.alloc (Nat.le_refl _) _) (by simp; omega) (by simp) ?_; intro A3 c3 L3 w3 hL3 h5 h6 ho3 hb3; have hz3 := hb3.size; have hb3' := ((Below.refl w2.heap.size w2).alloc (Nat.le_refl _) (.cells #[.int .i64 k] 3)).trans hb3)
      | (refine app64_w _ (by simp [Region.wanted, yielded]) _ _ rfl w2.heap.size _ L3 rfl (ho3.alloc _) (w3.heap.size + 1) _ 1 _ [_] rfl rfl (sees_new w3 .i64 _ 3 _ (by omega)) (by simp at h5 ⊢; omega) (by simp at hz3 ⊢; omega) ?_; intro A4 c4 L4 w4 hL4 h7 h8 ho4 hb4; have hb4' := hb3'.trans (((Below.refl _ _).alloc (by simp at hz3; omega) (.cells #[.int .i64 k] 3)).trans hb4)))
    have hL4l : L4.length ≤ 100 := by simp at h5 h7; omega
    have HB4 := Lib.hid (HB2.out.trans (hb4'.mono hz2)); have HO4 := Lib.hid (HO2.out.belowAll hb4')
    have HE : Hid (hv 11 L4 = h) := Lib.hid (by rw [hL4.out, hL3.out, hh.out, List.cons_append, List.nil_append]; exact khv_eq k L)
    refine (hash_any A4 c4 _ L4 _ ho4.sees (by omega)).mono ?_
    rintro e w5 ⟨he, rfl⟩
    rw [HE.out] at he; subst he
    clear ho4 hb4' hb4 hb3' hb3 ho3 hz3 h5 h6 h7 h8 hL3 hL4
    have hz4 := HB4.out.size
    by_cases hl0 : L.length = 0
    · have HBx := HB4
      have HCDx := Lib.hid (code_below HCD.out HBx.out)
      go_wp2_with fail
      refine (drawDerive_any a0 _ cap0 _ _ HCDx.out).mono ?_
      rintro e wd ⟨⟨kk, s, hs0, hs1, hs4, rfl⟩, hbd⟩
      have hd := DKey_bd kk s
      obtain ⟨r, hr⟩ : ∃ r, DKey kk s = r := ⟨_, rfl⟩
      rw [hr] at hd
      have HR := Lib.hid hr
      have HBd := Lib.hid (HBx.out.trans (hbd.mono HBx.out.size))
      clear hr hbd
      go_wp2_with fail
      refine (der_any kk r s _ (by omega) HR.out).mono ?_
      rintro e we ⟨rfl, hbe⟩
      go_wp2_with fail
      refine (isKey_is r true _ (inB_yes (by omega) (by omega))).mono ?_
      rintro e wf ⟨rfl, rfl⟩
      go_wp2
      go_ret
      exact ⟨rfl, HBd.out.trans (hbe.mono HBd.out.size)⟩
    · go_wp2_with (at_builtin; refine app64 _ rfl _ _ rfl w4.heap.size _ [] rfl (Own.lit w4 w4.heap.size 3 .i64 (Nat.le_refl _)) w4.heap.size A1 _ c1 L rfl rfl (HO4.out.sees.alloc (Nat.le_refl _) _) (by simp; omega) (by simp) ?_; intro A5 c5 L5 w5 hL5 h9 h10 ho5 hb5)
      obtain rfl : L5 = L := by simpa using hL5.out
      have hb5' := ((Below.refl w4.heap.size w4).alloc (Nat.le_refl _) (.cells #[] 3)).trans hb5
      have HB5 := Lib.hid (HB4.out.trans (hb5'.mono hz4))
      have HO5 := Lib.hid ho5
      have HS5 := Lib.hid (HS.out.below HB5.out)
      have hz5 := hb5'.size
      clear hL5 h9 h10 hb5 hb5' ho5
      refine (at_any a0 cap0 _ 0 l _ HS5.out HL8.out (by omega) (by omega) (by omega)).mono ?_
      rintro e w6 ⟨x, hx0, hx1, rfl, rfl⟩
      have hpos : (0 : Int) < (L5.length : Int) := by omega
      have hm0 : 0 ≤ x % (L5.length : Int) := Int.emod_nonneg _ (by omega)
      have hm1 : x % (L5.length : Int) < (L5.length : Int) := Int.emod_lt_of_pos _ hpos
      obtain ⟨i, hi⟩ : ∃ i : Nat, x % (L5.length : Int) = i := ⟨(x % (L5.length : Int)).toNat, by omega⟩
      have hil : i < L5.length := by omega
      obtain ⟨g, rfl, hgB, -, hr⟩ := HO5.out.row (by omega)
      obtain ⟨y, hy⟩ : ∃ y, L5[i]? = some y := ⟨_, List.getElem?_eq_getElem hil⟩
      have hcell := hr.cell hy
      have hfr := hr.frozen i
      have HY := Lib.hid hy; clear hy
      have hsd : Sees w5.drew w.heap.size .u8 a0 l := HS5.out
      have hlb : l.length ≤ 1048576 := by omega
      go_wp2
      go_region_with (first
        | (go_at_call 21; refine (at_any a0 cap0 w.heap.size 1 l _ hsd HL8.out (by decide) (by decide) hlb).mono ?_; rintro e w6 ⟨n, hn0, hn1, rfl, rfl⟩)
        | (go_at_call 22; refine (smodM_any _ _).mono ?_; rintro e w7 ⟨z, hz, hz0, hz1, rfl, rfl⟩))
      all_goals
        have hr2 : Row (w5.drew.setCell ⟨g, i, none⟩ (.int .i64 z)) g 3 .i64 c5 (L5.set i z) := Row.set (w := w5.drew) hr i z
        have hse := (hr2.own hgB).sees
        have HSE := Lib.hid hse
        have HB7 := Lib.hid (show Below w.heap.size w (w5.drew.setCell ⟨g, i, none⟩ (.int .i64 z)) from HB5.out.drew.setCell (Nat.le_trans hz4 hgB) _)
        have HZ := hz
        clear hse hr2 hr hcell hfr hz hm0 hm1 hi
        go_wp2_with fail
        refine (keyed_any k _ _ c5 _ (L5.set i z) _ HSE.out (Nat.le_refl _) (by rw [List.length_set]) (by rw [List.length_set]; omega)).mono ?_
        rintro e w8 ⟨h2, hh2, h20, h21, rfl, hb8⟩
        have hne : h2 ≠ h := set_ne hh.out hh2.out HY.out HZ.out H3.out hn0 hn1
        have hnb : (h2 == h) = false := by simpa using hne
        have HBx := Lib.hid (HB7.out.trans (hb8.mono HB7.out.size))
        have HCDx := Lib.hid (code_below HCD.out HBx.out)
        clear hb8 HSE HZ HY
        go_wp2_with fail
        refine (drawDerive_any a0 _ cap0 _ _ HCDx.out).mono ?_
        rintro e wd ⟨⟨kk, s, hs0, hs1, hs4, rfl⟩, hbd⟩
        have hd := DKey_bd kk s
        obtain ⟨r, hr⟩ : ∃ r, DKey kk s = r := ⟨_, rfl⟩
        rw [hr] at hd
        have HR := Lib.hid hr
        have HBd := Lib.hid (HBx.out.trans (hbd.mono HBx.out.size))
        clear hr hbd
        go_wp2_with fail
        refine (der_any kk r s _ (by omega) HR.out).mono ?_
        rintro e we ⟨rfl, hbe⟩
        go_wp2_with fail
        refine (isKey_is r true _ (inB_yes (by omega) (by omega))).mono ?_
        rintro e wf ⟨rfl, rfl⟩
        go_wp2
        go_ret
        exact ⟨rfl, HBd.out.trans (hbe.mono HBd.out.size)⟩
end Go.Proofs.Ytalghkfkeaogfaa
