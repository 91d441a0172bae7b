/- The exact laws of chapter 3: their walks (written by exact.py). -/

import Derived.Test.YtalghkfkeaogfaaGoto
namespace Go.Proofs.Ytalghkfkeaogfaa
open Go.RowKit
set_option linter.unusedVariables false

theorem khash_v {k : Int} {l : List Int} {w : World} {f : FuncId} {args : Array Value} {P : Program} (h : Calls P f args w (KHash k l w)) : Calls P f args w fun e w' => e = .returned (.int .i64 (khv k l)) ∧ Below w.heap.size w w' :=
  h.mono fun e w' ⟨x, hx, _, _, he, hb⟩ => ⟨by rw [he, hx.out], hb⟩
set_option maxRecDepth 100000 in
set_option maxHeartbeats 1000000 in
theorem law_hash (a0 : Option Addr) (len0 cap0 : Nat) (z0 : List Int) (w : World) (w0 : IsRow .i64 w a0 len0 cap0 z0) :
    Calls Try.prog 5 #[.slice a0 len0 cap0] w fun e w' => e = .returned (.bool true) ∧ Below w.heap.size w w' := by
  obtain ⟨l0, rfl, hs0, hmax0, hwf0⟩ := row_sees w0
  have HS0 := Lib.hid hs0; clear hs0
  have HW0 : Hid (∀ x ∈ l0, -9223372036854775808 ≤ x ∧ x ≤ 9223372036854775807) := Lib.hid (ints_wf hwf0)
  clear w0 hwf0
  by_cases hbig0 : 1048576 < l0.length
  · go_enter Try.func5, Try.ntmps5
    go_wp2
    go_ret
    exact ⟨rfl, Below.refl _ _⟩
  obtain ⟨r0, hr0⟩ : ∃ r, (hv 11 l0) = r := ⟨_, rfl⟩
  have HR0 := Lib.hid hr0; clear hr0
  go_enter Try.func5, Try.ntmps5
  have HB := Lib.hid (Below.refl w.heap.size w)
  have hlot0 : w.heap.size ≤ w.heap.size := HB.out.size
  go_wp2_with fail
  refine (toIntS_any a0 cap0 l0 _ ((HS0.out.below HB.out).mono HB.out.size) (by omega)).mono ?_
  rintro e wt0 ⟨At0, ct0, Lt0, HLt0, rfl, hot0, hbt0⟩
  obtain rfl : l0 = Lt0 := HLt0.out.symm; clear HLt0
  have HBn := Lib.hid (HB.out.trans (hbt0.mono HB.out.size)); clear HB; have HB := HBn; clear HBn
  have HOt0 := Lib.hid hot0.held; have hzt0 := hbt0.size; clear hot0 hbt0
  have hloS : w.heap.size ≤ wt0.heap.size := HB.out.size
  go_wp2_with fail
  refine (bel_eq (shash_any At0 ct0 _ l0 _ HOt0.out.seesAll (by omega))).mono ?_
  rintro e wS ⟨he, hbS⟩
  rw [HR0.out] at he
  subst he
  have HBn := Lib.hid (HB.out.trans (hbS.mono HB.out.size)); clear HB; have HB := HBn; clear HBn
  have HOn := Lib.hid (HOt0.out.belowAll hbS); clear HOt0; have HOt0 := HOn; clear HOn
  have hzS := hbS.size; clear hbS
  have hlox0 : w.heap.size ≤ wS.heap.size := HB.out.size
  go_wp2_with fail
  refine (toIntS_any a0 cap0 l0 _ ((HS0.out.below HB.out).mono HB.out.size) (by omega)).mono ?_
  rintro e wx0 ⟨Ax0, cx0, Lx0, HLx0, rfl, hox0, hbx0⟩
  obtain rfl : l0 = Lx0 := HLx0.out.symm; clear HLx0
  have HBn := Lib.hid (HB.out.trans (hbx0.mono HB.out.size)); clear HB; have HB := HBn; clear HBn
  have HOn := Lib.hid (HOt0.out.belowAll hbx0); clear HOt0; have HOt0 := HOn; clear HOn
  have HOx0 := Lib.hid hox0.held; have hzx0 := hbx0.size; clear hox0 hbx0
  have hloG : w.heap.size ≤ wx0.heap.size := HB.out.size
  go_wp2_with fail
  refine (bel_eq (hash_any Ax0 cx0 _ l0 _ HOx0.out.seesAll (by omega))).mono ?_
  rintro e wG ⟨he, hbG⟩
  rw [HR0.out] at he
  subst he
  have HBn := Lib.hid (HB.out.trans (hbG.mono HB.out.size)); clear HB; have HB := HBn; clear HBn
  have HOn := Lib.hid (HOt0.out.belowAll hbG); clear HOt0; have HOt0 := HOn; clear HOn
  have HOn := Lib.hid (HOx0.out.belowAll hbG); clear HOx0; have HOx0 := HOn; clear HOn
  have hzG := hbG.size; clear hbG
  have hloy0 : w.heap.size ≤ wG.heap.size := HB.out.size
  go_wp2_with fail
  refine (toIntS_any a0 cap0 l0 _ ((HS0.out.below HB.out).mono HB.out.size) (by omega)).mono ?_
  rintro e wy0 ⟨Ay0, cy0, Ly0, HLy0, rfl, hoy0, hby0⟩
  obtain rfl : l0 = Ly0 := HLy0.out.symm; clear HLy0
  have HBn := Lib.hid (HB.out.trans (hby0.mono HB.out.size)); clear HB; have HB := HBn; clear HBn
  have HOn := Lib.hid (HOt0.out.belowAll hby0); clear HOt0; have HOt0 := HOn; clear HOn
  have HOn := Lib.hid (HOx0.out.belowAll hby0); clear HOx0; have HOx0 := HOn; clear HOn
  have HOy0 := Lib.hid hoy0.held; have hzy0 := hby0.size; clear hoy0 hby0
  go_wp2_with fail
  refine (eqIntS_yes Ax0 Ay0 cx0 cy0 _ _ l0 l0 _ HOx0.out.seesAll HOy0.out.seesAll (rfl) (by omega)).mono ?_
  rintro e we1 ⟨rfl, hbe1⟩
  have HBn := Lib.hid (HB.out.trans (hbe1.mono HB.out.size)); clear HB; have HB := HBn; clear HBn
  have HOn := Lib.hid (HOt0.out.belowAll hbe1); clear HOt0; have HOt0 := HOn; clear HOn
  have HOn := Lib.hid (HOx0.out.belowAll hbe1); clear HOx0; have HOx0 := HOn; clear HOn
  have HOn := Lib.hid (HOy0.out.belowAll hbe1); clear HOy0; have HOy0 := HOn; clear HOn
  have hze1 := hbe1.size; clear hbe1
  go_wp2
  go_ret
  exact ⟨rfl, HB.out⟩
set_option maxRecDepth 100000 in
set_option maxHeartbeats 1000000 in
theorem law_keyed (a0 : Int) (a1 : Option Addr) (len1 cap1 : Nat) (z1 : List Int) (w : World) (w0 : (Lit.int .i64 a0).wf = true) (w1 : IsRow .i64 w a1 len1 cap1 z1) :
    Calls Try.prog 6 #[.int .i64 a0, .slice a1 len1 cap1] w fun e w' => e = .returned (.bool true) ∧ Below w.heap.size w w' := by
  have hf0 := off_wf w0
  clear w0
  obtain ⟨l1, rfl, hs1, hmax1, hwf1⟩ := row_sees w1
  have HS1 := Lib.hid hs1; clear hs1
  have HW1 : Hid (∀ x ∈ l1, -9223372036854775808 ≤ x ∧ x ≤ 9223372036854775807) := Lib.hid (ints_wf hwf1)
  clear w1 hwf1
  by_cases hbig1 : 1048576 < l1.length
  · go_enter Try.func6, Try.ntmps6
    go_wp2
    go_ret
    exact ⟨rfl, Below.refl _ _⟩
  obtain ⟨r0, hr0⟩ : ∃ r, (khv a0 l1) = r := ⟨_, rfl⟩
  have HR0 := Lib.hid hr0; clear hr0
  go_enter Try.func6, Try.ntmps6
  have HB := Lib.hid (Below.refl w.heap.size w)
  have hlot1 : w.heap.size ≤ w.heap.size := HB.out.size
  go_wp2_with fail
  refine (toIntS_any a1 cap1 l1 _ ((HS1.out.below HB.out).mono HB.out.size) (by omega)).mono ?_
  rintro e wt1 ⟨At1, ct1, Lt1, HLt1, rfl, hot1, hbt1⟩
  obtain rfl : l1 = Lt1 := HLt1.out.symm; clear HLt1
  have HBn := Lib.hid (HB.out.trans (hbt1.mono HB.out.size)); clear HB; have HB := HBn; clear HBn
  have HOt1 := Lib.hid hot1.held; have hzt1 := hbt1.size; clear hot1 hbt1
  have hloS : w.heap.size ≤ wt1.heap.size := HB.out.size
  go_wp2_with fail
  refine (khash_v (skeyed_any a0 At1 _ ct1 _ l1 _ HOt1.out.seesAll (Nat.le_refl _) rfl (by omega))).mono ?_
  rintro e wS ⟨he, hbS⟩
  rw [HR0.out] at he
  subst he
  have HBn := Lib.hid (HB.out.trans (hbS.mono HB.out.size)); clear HB; have HB := HBn; clear HBn
  have HOn := Lib.hid (HOt1.out.belowAll hbS); clear HOt1; have HOt1 := HOn; clear HOn
  have hzS := hbS.size; clear hbS
  have hlox1 : w.heap.size ≤ wS.heap.size := HB.out.size
  go_wp2_with fail
  refine (toIntS_any a1 cap1 l1 _ ((HS1.out.below HB.out).mono HB.out.size) (by omega)).mono ?_
  rintro e wx1 ⟨Ax1, cx1, Lx1, HLx1, rfl, hox1, hbx1⟩
  obtain rfl : l1 = Lx1 := HLx1.out.symm; clear HLx1
  have HBn := Lib.hid (HB.out.trans (hbx1.mono HB.out.size)); clear HB; have HB := HBn; clear HBn
  have HOn := Lib.hid (HOt1.out.belowAll hbx1); clear HOt1; have HOt1 := HOn; clear HOn
  have HOx1 := Lib.hid hox1.held; have hzx1 := hbx1.size; clear hox1 hbx1
  have hloG : w.heap.size ≤ wx1.heap.size := HB.out.size
  go_wp2_with fail
  refine (khash_v (keyed_any a0 Ax1 _ cx1 _ l1 _ HOx1.out.seesAll (Nat.le_refl _) rfl (by omega))).mono ?_
  rintro e wG ⟨he, hbG⟩
  rw [HR0.out] at he
  subst he
  have HBn := Lib.hid (HB.out.trans (hbG.mono HB.out.size)); clear HB; have HB := HBn; clear HBn
  have HOn := Lib.hid (HOt1.out.belowAll hbG); clear HOt1; have HOt1 := HOn; clear HOn
  have HOn := Lib.hid (HOx1.out.belowAll hbG); clear HOx1; have HOx1 := HOn; clear HOn
  have hzG := hbG.size; clear hbG
  have hloy1 : w.heap.size ≤ wG.heap.size := HB.out.size
  go_wp2_with fail
  refine (toIntS_any a1 cap1 l1 _ ((HS1.out.below HB.out).mono HB.out.size) (by omega)).mono ?_
  rintro e wy1 ⟨Ay1, cy1, Ly1, HLy1, rfl, hoy1, hby1⟩
  obtain rfl : l1 = Ly1 := HLy1.out.symm; clear HLy1
  have HBn := Lib.hid (HB.out.trans (hby1.mono HB.out.size)); clear HB; have HB := HBn; clear HBn
  have HOn := Lib.hid (HOt1.out.belowAll hby1); clear HOt1; have HOt1 := HOn; clear HOn
  have HOn := Lib.hid (HOx1.out.belowAll hby1); clear HOx1; have HOx1 := HOn; clear HOn
  have HOy1 := Lib.hid hoy1.held; have hzy1 := hby1.size; clear hoy1 hby1
  go_wp2_with fail
  refine (eqIntS_yes Ax1 Ay1 cx1 cy1 _ _ l1 l1 _ HOx1.out.seesAll HOy1.out.seesAll (rfl) (by omega)).mono ?_
  rintro e we1 ⟨rfl, hbe1⟩
  have HBn := Lib.hid (HB.out.trans (hbe1.mono HB.out.size)); clear HB; have HB := HBn; clear HBn
  have HOn := Lib.hid (HOt1.out.belowAll hbe1); clear HOt1; have HOt1 := HOn; clear HOn
  have HOn := Lib.hid (HOx1.out.belowAll hbe1); clear HOx1; have HOx1 := HOn; clear HOn
  have HOn := Lib.hid (HOy1.out.belowAll hbe1); clear HOy1; have HOy1 := HOn; clear HOn
  have hze1 := hbe1.size; clear hbe1
  go_wp2
  go_ret
  exact ⟨rfl, HB.out⟩
set_option maxRecDepth 100000 in
set_option maxHeartbeats 1000000 in
theorem law_eqI (a0 : Option Addr) (len0 cap0 : Nat) (z0 : List Int) (a1 : Option Addr) (len1 cap1 : Nat) (z1 : List Int) (w : World) (w0 : IsRow .i64 w a0 len0 cap0 z0) (w1 : IsRow .i64 w a1 len1 cap1 z1) :
    Calls Try.prog 12 #[.slice a0 len0 cap0, .slice a1 len1 cap1] w fun e w' => e = .returned (.bool true) ∧ Below w.heap.size w w' := by
  obtain ⟨l0, rfl, hs0, hmax0, hwf0⟩ := row_sees w0
  have HS0 := Lib.hid hs0; clear hs0
  have HW0 : Hid (∀ x ∈ l0, -9223372036854775808 ≤ x ∧ x ≤ 9223372036854775807) := Lib.hid (ints_wf hwf0)
  clear w0 hwf0
  obtain ⟨l1, rfl, hs1, hmax1, hwf1⟩ := row_sees w1
  have HS1 := Lib.hid hs1; clear hs1
  have HW1 : Hid (∀ x ∈ l1, -9223372036854775808 ≤ x ∧ x ≤ 9223372036854775807) := Lib.hid (ints_wf hwf1)
  clear w1 hwf1
  by_cases hbig0 : 1048576 < l0.length
  · go_enter Try.func12, Try.ntmps12
    go_wp2
    go_ret
    exact ⟨rfl, Below.refl _ _⟩
  by_cases hbig1 : 1048576 < l1.length
  · go_enter Try.func12, Try.ntmps12
    go_wp2
    go_ret
    exact ⟨rfl, Below.refl _ _⟩
  obtain ⟨r0, hr0⟩ : ∃ r, (decide (l0 = l1)) = r := ⟨_, rfl⟩
  have HR0 := Lib.hid hr0; clear hr0
  go_enter Try.func12, Try.ntmps12
  have HB := Lib.hid (Below.refl w.heap.size w)
  have hlot0 : w.heap.size ≤ w.heap.size := HB.out.size
  go_wp2_with fail
  refine (toIntS_any a0 cap0 l0 _ ((HS0.out.below HB.out).mono HB.out.size) (by omega)).mono ?_
  rintro e wt0 ⟨At0, ct0, Lt0, HLt0, rfl, hot0, hbt0⟩
  obtain rfl : l0 = Lt0 := HLt0.out.symm; clear HLt0
  have HBn := Lib.hid (HB.out.trans (hbt0.mono HB.out.size)); clear HB; have HB := HBn; clear HBn
  have HOt0 := Lib.hid hot0.held; have hzt0 := hbt0.size; clear hot0 hbt0
  have hlot1 : w.heap.size ≤ wt0.heap.size := HB.out.size
  go_wp2_with fail
  refine (toIntS_any a1 cap1 l1 _ ((HS1.out.below HB.out).mono HB.out.size) (by omega)).mono ?_
  rintro e wt1 ⟨At1, ct1, Lt1, HLt1, rfl, hot1, hbt1⟩
  obtain rfl : l1 = Lt1 := HLt1.out.symm; clear HLt1
  have HBn := Lib.hid (HB.out.trans (hbt1.mono HB.out.size)); clear HB; have HB := HBn; clear HBn
  have HOn := Lib.hid (HOt0.out.belowAll hbt1); clear HOt0; have HOt0 := HOn; clear HOn
  have HOt1 := Lib.hid hot1.held; have hzt1 := hbt1.size; clear hot1 hbt1
  have hloS : w.heap.size ≤ wt1.heap.size := HB.out.size
  go_wp2_with fail
  refine (seqI_any At0 At1 ct0 ct1 _ _ l0 l1 r0 _ HOt0.out.seesAll HOt1.out.seesAll HR0.out (by omega)).mono ?_
  rintro e wS ⟨he, hbS⟩
  subst he
  have HBn := Lib.hid (HB.out.trans (hbS.mono HB.out.size)); clear HB; have HB := HBn; clear HBn
  have HOn := Lib.hid (HOt0.out.belowAll hbS); clear HOt0; have HOt0 := HOn; clear HOn
  have HOn := Lib.hid (HOt1.out.belowAll hbS); clear HOt1; have HOt1 := HOn; clear HOn
  have hzS := hbS.size; clear hbS
  have hlox0 : w.heap.size ≤ wS.heap.size := HB.out.size
  go_wp2_with fail
  refine (toIntS_any a0 cap0 l0 _ ((HS0.out.below HB.out).mono HB.out.size) (by omega)).mono ?_
  rintro e wx0 ⟨Ax0, cx0, Lx0, HLx0, rfl, hox0, hbx0⟩
  obtain rfl : l0 = Lx0 := HLx0.out.symm; clear HLx0
  have HBn := Lib.hid (HB.out.trans (hbx0.mono HB.out.size)); clear HB; have HB := HBn; clear HBn
  have HOn := Lib.hid (HOt0.out.belowAll hbx0); clear HOt0; have HOt0 := HOn; clear HOn
  have HOn := Lib.hid (HOt1.out.belowAll hbx0); clear HOt1; have HOt1 := HOn; clear HOn
  have HOx0 := Lib.hid hox0.held; have hzx0 := hbx0.size; clear hox0 hbx0
  have hlox1 : w.heap.size ≤ wx0.heap.size := HB.out.size
  go_wp2_with fail
  refine (toIntS_any a1 cap1 l1 _ ((HS1.out.below HB.out).mono HB.out.size) (by omega)).mono ?_
  rintro e wx1 ⟨Ax1, cx1, Lx1, HLx1, rfl, hox1, hbx1⟩
  obtain rfl : l1 = Lx1 := HLx1.out.symm; clear HLx1
  have HBn := Lib.hid (HB.out.trans (hbx1.mono HB.out.size)); clear HB; have HB := HBn; clear HBn
  have HOn := Lib.hid (HOt0.out.belowAll hbx1); clear HOt0; have HOt0 := HOn; clear HOn
  have HOn := Lib.hid (HOt1.out.belowAll hbx1); clear HOt1; have HOt1 := HOn; clear HOn
  have HOn := Lib.hid (HOx0.out.belowAll hbx1); clear HOx0; have HOx0 := HOn; clear HOn
  have HOx1 := Lib.hid hox1.held; have hzx1 := hbx1.size; clear hox1 hbx1
  have hloG : w.heap.size ≤ wx1.heap.size := HB.out.size
  go_wp2_with fail
  refine (eqI_any Ax0 Ax1 cx0 cx1 _ _ l0 l1 r0 _ HOx0.out.seesAll HOx1.out.seesAll HR0.out (by omega)).mono ?_
  rintro e wG ⟨he, hbG⟩
  subst he
  have HBn := Lib.hid (HB.out.trans (hbG.mono HB.out.size)); clear HB; have HB := HBn; clear HBn
  have HOn := Lib.hid (HOt0.out.belowAll hbG); clear HOt0; have HOt0 := HOn; clear HOn
  have HOn := Lib.hid (HOt1.out.belowAll hbG); clear HOt1; have HOt1 := HOn; clear HOn
  have HOn := Lib.hid (HOx0.out.belowAll hbG); clear HOx0; have HOx0 := HOn; clear HOn
  have HOn := Lib.hid (HOx1.out.belowAll hbG); clear HOx1; have HOx1 := HOn; clear HOn
  have hzG := hbG.size; clear hbG
  have hloy0 : w.heap.size ≤ wG.heap.size := HB.out.size
  go_wp2_with fail
  refine (toIntS_any a0 cap0 l0 _ ((HS0.out.below HB.out).mono HB.out.size) (by omega)).mono ?_
  rintro e wy0 ⟨Ay0, cy0, Ly0, HLy0, rfl, hoy0, hby0⟩
  obtain rfl : l0 = Ly0 := HLy0.out.symm; clear HLy0
  have HBn := Lib.hid (HB.out.trans (hby0.mono HB.out.size)); clear HB; have HB := HBn; clear HBn
  have HOn := Lib.hid (HOt0.out.belowAll hby0); clear HOt0; have HOt0 := HOn; clear HOn
  have HOn := Lib.hid (HOt1.out.belowAll hby0); clear HOt1; have HOt1 := HOn; clear HOn
  have HOn := Lib.hid (HOx0.out.belowAll hby0); clear HOx0; have HOx0 := HOn; clear HOn
  have HOn := Lib.hid (HOx1.out.belowAll hby0); clear HOx1; have HOx1 := HOn; clear HOn
  have HOy0 := Lib.hid hoy0.held; have hzy0 := hby0.size; clear hoy0 hby0
  go_wp2_with fail
  refine (eqIntS_yes Ax0 Ay0 cx0 cy0 _ _ l0 l0 _ HOx0.out.seesAll HOy0.out.seesAll (rfl) (by omega)).mono ?_
  rintro e we1 ⟨rfl, hbe1⟩
  have HBn := Lib.hid (HB.out.trans (hbe1.mono HB.out.size)); clear HB; have HB := HBn; clear HBn
  have HOn := Lib.hid (HOt0.out.belowAll hbe1); clear HOt0; have HOt0 := HOn; clear HOn
  have HOn := Lib.hid (HOt1.out.belowAll hbe1); clear HOt1; have HOt1 := HOn; clear HOn
  have HOn := Lib.hid (HOx0.out.belowAll hbe1); clear HOx0; have HOx0 := HOn; clear HOn
  have HOn := Lib.hid (HOx1.out.belowAll hbe1); clear HOx1; have HOx1 := HOn; clear HOn
  have HOn := Lib.hid (HOy0.out.belowAll hbe1); clear HOy0; have HOy0 := HOn; clear HOn
  have hze1 := hbe1.size; clear hbe1
  have hloy1 : w.heap.size ≤ we1.heap.size := HB.out.size
  go_wp2_with fail
  refine (toIntS_any a1 cap1 l1 _ ((HS1.out.below HB.out).mono HB.out.size) (by omega)).mono ?_
  rintro e wy1 ⟨Ay1, cy1, Ly1, HLy1, rfl, hoy1, hby1⟩
  obtain rfl : l1 = Ly1 := HLy1.out.symm; clear HLy1
  have HBn := Lib.hid (HB.out.trans (hby1.mono HB.out.size)); clear HB; have HB := HBn; clear HBn
  have HOn := Lib.hid (HOt0.out.belowAll hby1); clear HOt0; have HOt0 := HOn; clear HOn
  have HOn := Lib.hid (HOt1.out.belowAll hby1); clear HOt1; have HOt1 := HOn; clear HOn
  have HOn := Lib.hid (HOx0.out.belowAll hby1); clear HOx0; have HOx0 := HOn; clear HOn
  have HOn := Lib.hid (HOx1.out.belowAll hby1); clear HOx1; have HOx1 := HOn; clear HOn
  have HOn := Lib.hid (HOy0.out.belowAll hby1); clear HOy0; have HOy0 := HOn; clear HOn
  have HOy1 := Lib.hid hoy1.held; have hzy1 := hby1.size; clear hoy1 hby1
  go_wp2_with fail
  refine (eqIntS_yes Ax1 Ay1 cx1 cy1 _ _ l1 l1 _ HOx1.out.seesAll HOy1.out.seesAll (rfl) (by omega)).mono ?_
  rintro e we2 ⟨rfl, hbe2⟩
  have HBn := Lib.hid (HB.out.trans (hbe2.mono HB.out.size)); clear HB; have HB := HBn; clear HBn
  have HOn := Lib.hid (HOt0.out.belowAll hbe2); clear HOt0; have HOt0 := HOn; clear HOn
  have HOn := Lib.hid (HOt1.out.belowAll hbe2); clear HOt1; have HOt1 := HOn; clear HOn
  have HOn := Lib.hid (HOx0.out.belowAll hbe2); clear HOx0; have HOx0 := HOn; clear HOn
  have HOn := Lib.hid (HOx1.out.belowAll hbe2); clear HOx1; have HOx1 := HOn; clear HOn
  have HOn := Lib.hid (HOy0.out.belowAll hbe2); clear HOy0; have HOy0 := HOn; clear HOn
  have HOn := Lib.hid (HOy1.out.belowAll hbe2); clear HOy1; have HOy1 := HOn; clear HOn
  have hze2 := hbe2.size; clear hbe2
  go_wp2
  go_ret
  exact ⟨rfl, HB.out⟩
set_option maxRecDepth 100000 in
set_option maxHeartbeats 1000000 in
theorem law_b2i (a0 : Option Addr) (len0 cap0 : Nat) (z0 : List Int) (w : World) (w0 : IsRow .u8 w a0 len0 cap0 z0) :
    Calls Try.prog 8 #[.slice a0 len0 cap0] w fun e w' => e = .returned (.bool true) ∧ Below w.heap.size w w' := by
  obtain ⟨l0, rfl, hs0, hmax0, hwf0⟩ := row_sees w0
  have HS0 := Lib.hid hs0; clear hs0
  have HW0 : Hid (B8 l0) := Lib.hid (bytes_wf hwf0)
  clear w0 hwf0
  by_cases hbig0 : 1048576 < l0.length
  · go_enter Try.func8, Try.ntmps8
    go_wp2
    go_ret
    exact ⟨rfl, Below.refl _ _⟩
  go_enter Try.func8, Try.ntmps8
  have HB := Lib.hid (Below.refl w.heap.size w)
  have hlot0 : w.heap.size ≤ w.heap.size := HB.out.size
  go_wp2_with fail
  refine (toByteS_any a0 cap0 l0 _ ((HS0.out.below HB.out).mono HB.out.size) (by omega)).mono ?_
  rintro e wt0 ⟨At0, ct0, Lt0, HLt0, rfl, hot0, hbt0⟩
  obtain rfl : l0 = Lt0 := HLt0.out.symm; clear HLt0
  have HBn := Lib.hid (HB.out.trans (hbt0.mono HB.out.size)); clear HB; have HB := HBn; clear HBn
  have HOt0 := Lib.hid hot0.held; have hzt0 := hbt0.size; clear hot0 hbt0
  have hloS : w.heap.size ≤ wt0.heap.size := HB.out.size
  go_wp2_with fail
  refine (sb2i_any At0 ct0 l0 _ HOt0.out.seesAll HW0.out (by omega)).mono ?_
  rintro e wS ⟨AS, cS, LS, HLS, he, hoS, hbS⟩
  subst he
  have hnS : LS.length ≤ 17592186044416 := by rw [HLS.out]; unfold b2i; simp; omega
  have HBn := Lib.hid (HB.out.trans (hbS.mono HB.out.size)); clear HB; have HB := HBn; clear HBn
  have HOn := Lib.hid (HOt0.out.belowAll hbS); clear HOt0; have HOt0 := HOn; clear HOn
  have HOS := Lib.hid hoS.held; have hzS := hbS.size; clear hoS hbS
  have hlox0 : w.heap.size ≤ wS.heap.size := HB.out.size
  go_wp2_with fail
  refine (toByteS_any a0 cap0 l0 _ ((HS0.out.below HB.out).mono HB.out.size) (by omega)).mono ?_
  rintro e wx0 ⟨Ax0, cx0, Lx0, HLx0, rfl, hox0, hbx0⟩
  obtain rfl : l0 = Lx0 := HLx0.out.symm; clear HLx0
  have HBn := Lib.hid (HB.out.trans (hbx0.mono HB.out.size)); clear HB; have HB := HBn; clear HBn
  have HOn := Lib.hid (HOt0.out.belowAll hbx0); clear HOt0; have HOt0 := HOn; clear HOn
  have HOn := Lib.hid (HOS.out.belowAll hbx0); clear HOS; have HOS := HOn; clear HOn
  have HOx0 := Lib.hid hox0.held; have hzx0 := hbx0.size; clear hox0 hbx0
  have hloG : w.heap.size ≤ wx0.heap.size := HB.out.size
  go_wp2_with fail
  refine (b2i_any Ax0 cx0 l0 _ HOx0.out.seesAll HW0.out (by omega)).mono ?_
  rintro e wG ⟨AG, cG, LG, HLG, he, hoG, hbG⟩
  subst he
  have hnG : LG.length ≤ 17592186044416 := by rw [HLG.out]; unfold b2i; simp; omega
  have HBn := Lib.hid (HB.out.trans (hbG.mono HB.out.size)); clear HB; have HB := HBn; clear HBn
  have HOn := Lib.hid (HOt0.out.belowAll hbG); clear HOt0; have HOt0 := HOn; clear HOn
  have HOn := Lib.hid (HOS.out.belowAll hbG); clear HOS; have HOS := HOn; clear HOn
  have HOn := Lib.hid (HOx0.out.belowAll hbG); clear HOx0; have HOx0 := HOn; clear HOn
  have HOG := Lib.hid hoG.held; have hzG := hbG.size; clear hoG hbG
  go_wp2_with fail
  refine (eqIntS_yes AG AS cG cS _ _ LG LS _ HOG.out.seesAll HOS.out.seesAll (HLG.out.trans HLS.out.symm) (by omega)).mono ?_
  rintro e we1 ⟨rfl, hbe1⟩
  have HBn := Lib.hid (HB.out.trans (hbe1.mono HB.out.size)); clear HB; have HB := HBn; clear HBn
  have HOn := Lib.hid (HOt0.out.belowAll hbe1); clear HOt0; have HOt0 := HOn; clear HOn
  have HOn := Lib.hid (HOS.out.belowAll hbe1); clear HOS; have HOS := HOn; clear HOn
  have HOn := Lib.hid (HOx0.out.belowAll hbe1); clear HOx0; have HOx0 := HOn; clear HOn
  have HOn := Lib.hid (HOG.out.belowAll hbe1); clear HOG; have HOG := HOn; clear HOn
  have hze1 := hbe1.size; clear hbe1
  have hloy0 : w.heap.size ≤ we1.heap.size := HB.out.size
  go_wp2_with fail
  refine (toByteS_any a0 cap0 l0 _ ((HS0.out.below HB.out).mono HB.out.size) (by omega)).mono ?_
  rintro e wy0 ⟨Ay0, cy0, Ly0, HLy0, rfl, hoy0, hby0⟩
  obtain rfl : l0 = Ly0 := HLy0.out.symm; clear HLy0
  have HBn := Lib.hid (HB.out.trans (hby0.mono HB.out.size)); clear HB; have HB := HBn; clear HBn
  have HOn := Lib.hid (HOt0.out.belowAll hby0); clear HOt0; have HOt0 := HOn; clear HOn
  have HOn := Lib.hid (HOS.out.belowAll hby0); clear HOS; have HOS := HOn; clear HOn
  have HOn := Lib.hid (HOx0.out.belowAll hby0); clear HOx0; have HOx0 := HOn; clear HOn
  have HOn := Lib.hid (HOG.out.belowAll hby0); clear HOG; have HOG := HOn; clear HOn
  have HOy0 := Lib.hid hoy0.held; have hzy0 := hby0.size; clear hoy0 hby0
  go_wp2_with fail
  refine (eqByteS_yes Ax0 Ay0 cx0 cy0 _ _ l0 l0 _ HOx0.out.seesAll HOy0.out.seesAll (rfl) (by omega)).mono ?_
  rintro e we2 ⟨rfl, hbe2⟩
  have HBn := Lib.hid (HB.out.trans (hbe2.mono HB.out.size)); clear HB; have HB := HBn; clear HBn
  have HOn := Lib.hid (HOt0.out.belowAll hbe2); clear HOt0; have HOt0 := HOn; clear HOn
  have HOn := Lib.hid (HOS.out.belowAll hbe2); clear HOS; have HOS := HOn; clear HOn
  have HOn := Lib.hid (HOx0.out.belowAll hbe2); clear HOx0; have HOx0 := HOn; clear HOn
  have HOn := Lib.hid (HOG.out.belowAll hbe2); clear HOG; have HOG := HOn; clear HOn
  have HOn := Lib.hid (HOy0.out.belowAll hbe2); clear HOy0; have HOy0 := HOn; clear HOn
  have hze2 := hbe2.size; clear hbe2
  go_wp2_with fail
  refine (markByteS_held Ax0 l0.length cx0 1 _ _ l0 _ HOx0.out rfl (by omega) (by omega)).mono ?_
  rintro e wm3 ⟨k0, Hk0, rfl, hom3, hgm3⟩
  have hk0 := Hk0.out
  have hk0' : k0 ≤ 1 + l0.length := by omega
  clear hk0
  have HBn := Lib.hid (below_mark HB.out HOx0.out hlox0 hgm3 HB.out.size); clear HB; have HB := HBn; clear HBn
  have HOn := Lib.hid (HOt0.out.kept HOx0.out (by omega) hgm3); clear HOt0; have HOt0 := HOn; clear HOn
  have HOn := Lib.hid (HOS.out.kept HOx0.out (by omega) hgm3); clear HOS; have HOS := HOn; clear HOn
  have HOn := Lib.hid (HOG.out.kept HOx0.out (by omega) hgm3); clear HOG; have HOG := HOn; clear HOn
  have HOn := Lib.hid (HOy0.out.kept HOx0.out (by omega) hgm3); clear HOy0; have HOy0 := HOn; clear HOn
  clear HOx0; have HOx0 := Lib.hid hom3; have hzm3 := hgm3.size; clear hom3 hgm3
  go_wp2_with fail
  refine (eqIntS_yes AG AS cG cS _ _ LG LS _ HOG.out.seesAll HOS.out.seesAll (HLG.out.trans HLS.out.symm) (by omega)).mono ?_
  rintro e we4 ⟨rfl, hbe4⟩
  have HBn := Lib.hid (HB.out.trans (hbe4.mono HB.out.size)); clear HB; have HB := HBn; clear HBn
  have HOn := Lib.hid (HOt0.out.belowAll hbe4); clear HOt0; have HOt0 := HOn; clear HOn
  have HOn := Lib.hid (HOS.out.belowAll hbe4); clear HOS; have HOS := HOn; clear HOn
  have HOn := Lib.hid (HOx0.out.belowAll hbe4); clear HOx0; have HOx0 := HOn; clear HOn
  have HOn := Lib.hid (HOG.out.belowAll hbe4); clear HOG; have HOG := HOn; clear HOn
  have HOn := Lib.hid (HOy0.out.belowAll hbe4); clear HOy0; have HOy0 := HOn; clear HOn
  have hze4 := hbe4.size; clear hbe4
  go_wp2_with fail
  refine (markIntS_held AG LG.length cG 1 _ _ LG _ HOG.out rfl (by omega) (by omega)).mono ?_
  rintro e wm5 ⟨m0, Hm0, rfl, hom5, hgm5⟩
  have hm0 := Hm0.out
  have hm0' : m0 ≤ 1 + LG.length := by omega
  clear hm0
  have HBn := Lib.hid (below_mark HB.out HOG.out hloG hgm5 HB.out.size); clear HB; have HB := HBn; clear HBn
  have HOn := Lib.hid (HOt0.out.kept HOG.out (by omega) hgm5); clear HOt0; have HOt0 := HOn; clear HOn
  have HOn := Lib.hid (HOS.out.kept HOG.out (by omega) hgm5); clear HOS; have HOS := HOn; clear HOn
  have HOn := Lib.hid (HOx0.out.kept HOG.out (by omega) hgm5); clear HOx0; have HOx0 := HOn; clear HOn
  have HOn := Lib.hid (HOy0.out.kept HOG.out (by omega) hgm5); clear HOy0; have HOy0 := HOn; clear HOn
  clear HOG; have HOG := Lib.hid hom5; have hzm5 := hgm5.size; clear hom5 hgm5
  go_wp2_with fail
  refine (heldIntS_q AG LG.length cG 1 _ _ HOG.out.seesAll (by omega) (by omega)).mono ?_
  rintro e w' ⟨q0, Hq0, rfl, rfl⟩
  obtain rfl : m0 = q0 := Hm0.out.trans Hq0.out.symm
  have hlou0 : w.heap.size ≤ wm5.heap.size := HB.out.size
  go_wp2_with fail
  refine (toByteS_any a0 cap0 l0 _ ((HS0.out.below HB.out).mono HB.out.size) (by omega)).mono ?_
  rintro e wu0 ⟨Au0, cu0, Lu0, HLu0, rfl, hou0, hbu0⟩
  obtain rfl : l0 = Lu0 := HLu0.out.symm; clear HLu0
  have HBn := Lib.hid (HB.out.trans (hbu0.mono HB.out.size)); clear HB; have HB := HBn; clear HBn
  have HOn := Lib.hid (HOt0.out.belowAll hbu0); clear HOt0; have HOt0 := HOn; clear HOn
  have HOn := Lib.hid (HOS.out.belowAll hbu0); clear HOS; have HOS := HOn; clear HOn
  have HOn := Lib.hid (HOx0.out.belowAll hbu0); clear HOx0; have HOx0 := HOn; clear HOn
  have HOn := Lib.hid (HOG.out.belowAll hbu0); clear HOG; have HOG := HOn; clear HOn
  have HOn := Lib.hid (HOy0.out.belowAll hbu0); clear HOy0; have HOy0 := HOn; clear HOn
  have HOu0 := Lib.hid hou0.held; have hzu0 := hbu0.size; clear hou0 hbu0
  have hloH : w.heap.size ≤ wu0.heap.size := HB.out.size
  go_wp2_with fail
  refine (b2i_any Au0 cu0 l0 _ HOu0.out.seesAll HW0.out (by omega)).mono ?_
  rintro e wH ⟨AH, cH, LH, HLH, he, hoH, hbH⟩
  subst he
  have hnH : LH.length ≤ 17592186044416 := by rw [HLH.out]; unfold b2i; simp; omega
  have HBn := Lib.hid (HB.out.trans (hbH.mono HB.out.size)); clear HB; have HB := HBn; clear HBn
  have HOn := Lib.hid (HOt0.out.belowAll hbH); clear HOt0; have HOt0 := HOn; clear HOn
  have HOn := Lib.hid (HOS.out.belowAll hbH); clear HOS; have HOS := HOn; clear HOn
  have HOn := Lib.hid (HOx0.out.belowAll hbH); clear HOx0; have HOx0 := HOn; clear HOn
  have HOn := Lib.hid (HOG.out.belowAll hbH); clear HOG; have HOG := HOn; clear HOn
  have HOn := Lib.hid (HOy0.out.belowAll hbH); clear HOy0; have HOy0 := HOn; clear HOn
  have HOn := Lib.hid (HOu0.out.belowAll hbH); clear HOu0; have HOu0 := HOn; clear HOn
  have HOH := Lib.hid hoH.held; have hzH := hbH.size; clear hoH hbH
  go_wp2_with fail
  refine (eqIntS_yes AH AS cH cS _ _ LH LS _ HOH.out.seesAll HOS.out.seesAll (HLH.out.trans HLS.out.symm) (by omega)).mono ?_
  rintro e we6 ⟨rfl, hbe6⟩
  have HBn := Lib.hid (HB.out.trans (hbe6.mono HB.out.size)); clear HB; have HB := HBn; clear HBn
  have HOn := Lib.hid (HOt0.out.belowAll hbe6); clear HOt0; have HOt0 := HOn; clear HOn
  have HOn := Lib.hid (HOS.out.belowAll hbe6); clear HOS; have HOS := HOn; clear HOn
  have HOn := Lib.hid (HOx0.out.belowAll hbe6); clear HOx0; have HOx0 := HOn; clear HOn
  have HOn := Lib.hid (HOG.out.belowAll hbe6); clear HOG; have HOG := HOn; clear HOn
  have HOn := Lib.hid (HOy0.out.belowAll hbe6); clear HOy0; have HOy0 := HOn; clear HOn
  have HOn := Lib.hid (HOu0.out.belowAll hbe6); clear HOu0; have HOu0 := HOn; clear HOn
  have HOn := Lib.hid (HOH.out.belowAll hbe6); clear HOH; have HOH := HOn; clear HOn
  have hze6 := hbe6.size; clear hbe6
  go_wp2_with fail
  refine (heldIntS_q AG LG.length cG 1 _ _ HOG.out.seesAll (by omega) (by omega)).mono ?_
  rintro e w' ⟨q1, Hq1, rfl, rfl⟩
  obtain rfl : m0 = q1 := Hm0.out.trans Hq1.out.symm
  go_wp2
  go_ret
  exact ⟨rfl, HB.out⟩
theorem law_isKey (a : Int) (wf : (Lit.int .i64 a).wf = true) (w : World) :
    Calls Try.prog 7 #[.int .i64 a] w fun e w' => e = .returned (.bool true) ∧ Grown w w' := by
  obtain ⟨b, hb⟩ : ∃ b, inB a 1 2147483646 = b := ⟨_, rfl⟩
  have HB := Lib.hid hb; clear hb
  go_enter Try.func7, Try.ntmps7
  go_wp2_with fail
  refine (sisKey_is a b _ HB.out).mono ?_
  rintro e w' ⟨rfl, rfl⟩
  go_wp2_with fail
  refine (isKey_is a b _ HB.out).mono ?_
  rintro e w' ⟨rfl, rfl⟩
  go_wp2
  go_ret
  exact ⟨rfl, Grown.refl _⟩
end Go.Proofs.Ytalghkfkeaogfaa
