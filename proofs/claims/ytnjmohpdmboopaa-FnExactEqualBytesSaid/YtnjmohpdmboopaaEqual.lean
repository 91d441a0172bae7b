/- EqualBytes, of package impl and of the model: both compare the bytes; and its exact law. -/
import Derived.Test.YtnjmohpdmboopaaLawEnc
import Derived.Laws.IdiomStrings
namespace Go.Proofs.Ytnjmohpdmboopaa
open Go.RowKit
set_option linter.unusedVariables false

def u8s (l : List Int) : List UInt8 := l.map fun x => UInt8.ofNat x.toNat
theorem conv8 {w : World} {B : Nat} {A : Option Addr} {l : List Int} (c : Nat) (hs : Sees w B .u8 A l) (h8 : B8 l) :
    (convert 22 9 (.slice A l.length c)).run Try.prog w = .ok (.string ⟨(u8s l).toArray⟩) w := by
  by_cases h0 : l.length = 0
  · obtain rfl : l = [] := List.eq_nil_of_length_eq_zero h0
    rw [run_convert_bytes_string w 22 9 5 A _ c Try.underlying22 Try.underlying5 Try.underlying9]
    cases A <;> simp [Conv.bytesToString, loadCells]
    all_goals rfl
  · obtain ⟨b, off, x, rfl, _, _, _⟩ := hs.lt (j := 0) (by omega)
    have hl : (u8s l).length = l.length := by simp [u8s]
    rw [← hl]
    refine run_convert_bytes_back w 22 9 5 ⟨b, off, none⟩ c (u8s l) Try.underlying22 Try.underlying5 Try.underlying9 fun j hj => ?_
    obtain ⟨b', off', x, hA, _, hx, hc⟩ := hs.lt (j := j) (by omega)
    simp only [Option.some.injEq, Addr.mk.injEq, and_true] at hA
    obtain ⟨rfl, rfl⟩ := hA
    rw [add_none, hc]
    have h1 := h8 x (List.mem_of_getElem? hx)
    have e : (u8s l)[j] = UInt8.ofNat x.toNat := by
      have := (List.getElem?_eq_some_iff.1 hx).2
      simp [u8s, this]
    rw [e, UInt8.toNat_ofNat_of_lt' (show x.toNat < 2 ^ 8 by omega)]
    congr 2
    omega
theorem bytesEq_any (A A' : Option Addr) (c c' B B' : Nat) (l l' : List Int) (b : Bool) (w : World) (hs : Sees w B .u8 A l) (hs' : Sees w B' .u8 A' l') (h8 : B8 l) (h8' : B8 l') (hb : (u8s l == u8s l') = b) :
    Calls Try.prog 56 #[.slice A l.length c, .slice A' l'.length c'] w fun e w' => e = .returned (.bool b) ∧ w = w' := by
  have k1 := conv8 c hs h8
  have k2 := conv8 c' hs' h8'
  clear hs hs' h8 h8'
  go_enter Try.func56, Try.ntmps56
  go_wp2
  go_ret
  exact ⟨rfl, rfl⟩
theorem eqB_any (A A' : Option Addr) (c c' B B' : Nat) (l l' : List Int) (b : Bool) (w : World) (hs : Sees w B .u8 A l) (hs' : Sees w B' .u8 A' l') (h8 : B8 l) (h8' : B8 l') (hb : (u8s l == u8s l') = b) :
    Calls Try.prog 40 #[.slice A l.length c, .slice A' l'.length c'] w fun e w' => e = .returned (.bool b) ∧ w = w' := by
  have HS := Lib.hid hs; have HS' := Lib.hid hs'; have H8 : Hid (B8 l) := Lib.hid h8; have H8' : Hid (B8 l') := Lib.hid h8'; have HB := Lib.hid hb
  clear hs hs' h8 h8' hb
  go_enter Try.func40, Try.ntmps40
  go_wp2_with fail
  refine (bytesEq_any A A' c c' B B' l l' b _ HS.out HS'.out H8.out H8'.out HB.out).mono ?_
  rintro e w' ⟨rfl, rfl⟩
  go_wp2
  go_ret
  exact ⟨rfl, rfl⟩
theorem seqB_any (A A' : Option Addr) (c c' B B' : Nat) (l l' : List Int) (b : Bool) (w : World) (hs : Sees w B .u8 A l) (hs' : Sees w B' .u8 A' l') (h8 : B8 l) (h8' : B8 l') (hb : (u8s l == u8s l') = b) :
    Calls Try.prog 39 #[.slice A l.length c, .slice A' l'.length c'] w fun e w' => e = .returned (.bool b) ∧ w = w' := by
  have k1 := conv8 c hs h8
  have k2 := conv8 c' hs' h8'
  clear hs hs' h8 h8'
  go_enter Try.func39, Try.ntmps39
  go_wp2
  go_ret
  exact ⟨rfl, rfl⟩
set_option maxRecDepth 100000 in
set_option maxHeartbeats 1000000 in
theorem law_eqB (a0 : Option Addr) (len0 cap0 : Nat) (z0 : List Int) (a1 : Option Addr) (len1 cap1 : Nat) (z1 : List Int) (w : World) (w0 : IsRow .u8 w a0 len0 cap0 z0) (w1 : IsRow .u8 w a1 len1 cap1 z1) :
    Calls Try.prog 11 #[.slice a0 len0 cap0, .slice a1 len1 cap1] w fun e w' => e = .returned (.bool true) ∧ Below w.heap.size w w' := by
  obtain ⟨l0, rfl, hs0, hmax0, hwf0⟩ := row_sees w0
  have HS0 := Lib.hid hs0; clear hs0
  have HW0 : Hid (B8 l0) := Lib.hid (bytes_wf hwf0)
  clear w0 hwf0
  obtain ⟨l1, rfl, hs1, hmax1, hwf1⟩ := row_sees w1
  have HS1 := Lib.hid hs1; clear hs1
  have HW1 : Hid (B8 l1) := Lib.hid (bytes_wf hwf1)
  clear w1 hwf1
  by_cases hbig0 : 1048576 < l0.length
  · go_enter Try.func11, Try.ntmps11
    go_wp2
    go_ret
    exact ⟨rfl, Below.refl _ _⟩
  by_cases hbig1 : 1048576 < l1.length
  · go_enter Try.func11, Try.ntmps11
    go_wp2
    go_ret
    exact ⟨rfl, Below.refl _ _⟩
  obtain ⟨r0, hr0⟩ : ∃ r, (u8s l0 == u8s l1) = r := ⟨_, rfl⟩
  have HR0 := Lib.hid hr0; clear hr0
  go_enter Try.func11, Try.ntmps11
  have HB := Lib.hid (Below.refl w.heap.size w)
  have hlot0 : w.heap.size ≤ w.heap.size := HB.out.size
  go_wp2_with fail
  refine (toByteS_any a0 cap0 l0 _ ((HS0.out.below HB.out).mono HB.out.size) (by omega)).mono ?_
  rintro e wt0 ⟨At0, ct0, Lt0, HLt0, rfl, hot0, hbt0⟩
  obtain rfl : l0 = Lt0 := HLt0.out.symm; clear HLt0
  have HBn := Lib.hid (HB.out.trans (hbt0.mono HB.out.size)); clear HB; have HB := HBn; clear HBn
  have HOt0 := Lib.hid hot0.held; have hzt0 := hbt0.size; clear hot0 hbt0
  have hlot1 : w.heap.size ≤ wt0.heap.size := HB.out.size
  go_wp2_with fail
  refine (toByteS_any a1 cap1 l1 _ ((HS1.out.below HB.out).mono HB.out.size) (by omega)).mono ?_
  rintro e wt1 ⟨At1, ct1, Lt1, HLt1, rfl, hot1, hbt1⟩
  obtain rfl : l1 = Lt1 := HLt1.out.symm; clear HLt1
  have HBn := Lib.hid (HB.out.trans (hbt1.mono HB.out.size)); clear HB; have HB := HBn; clear HBn
  have HOn := Lib.hid (HOt0.out.belowAll hbt1); clear HOt0; have HOt0 := HOn; clear HOn
  have HOt1 := Lib.hid hot1.held; have hzt1 := hbt1.size; clear hot1 hbt1
  have hloS : w.heap.size ≤ wt1.heap.size := HB.out.size
  go_wp2_with fail
  refine (bel_eq (seqB_any At0 At1 ct0 ct1 _ _ l0 l1 r0 _ HOt0.out.seesAll HOt1.out.seesAll HW0.out HW1.out HR0.out)).mono ?_
  rintro e wS ⟨he, hbS⟩
  subst he
  have HBn := Lib.hid (HB.out.trans (hbS.mono HB.out.size)); clear HB; have HB := HBn; clear HBn
  have HOn := Lib.hid (HOt0.out.belowAll hbS); clear HOt0; have HOt0 := HOn; clear HOn
  have HOn := Lib.hid (HOt1.out.belowAll hbS); clear HOt1; have HOt1 := HOn; clear HOn
  have hzS := hbS.size; clear hbS
  have hlox0 : w.heap.size ≤ wS.heap.size := HB.out.size
  go_wp2_with fail
  refine (toByteS_any a0 cap0 l0 _ ((HS0.out.below HB.out).mono HB.out.size) (by omega)).mono ?_
  rintro e wx0 ⟨Ax0, cx0, Lx0, HLx0, rfl, hox0, hbx0⟩
  obtain rfl : l0 = Lx0 := HLx0.out.symm; clear HLx0
  have HBn := Lib.hid (HB.out.trans (hbx0.mono HB.out.size)); clear HB; have HB := HBn; clear HBn
  have HOn := Lib.hid (HOt0.out.belowAll hbx0); clear HOt0; have HOt0 := HOn; clear HOn
  have HOn := Lib.hid (HOt1.out.belowAll hbx0); clear HOt1; have HOt1 := HOn; clear HOn
  have HOx0 := Lib.hid hox0.held; have hzx0 := hbx0.size; clear hox0 hbx0
  have hlox1 : w.heap.size ≤ wx0.heap.size := HB.out.size
  go_wp2_with fail
  refine (toByteS_any a1 cap1 l1 _ ((HS1.out.below HB.out).mono HB.out.size) (by omega)).mono ?_
  rintro e wx1 ⟨Ax1, cx1, Lx1, HLx1, rfl, hox1, hbx1⟩
  obtain rfl : l1 = Lx1 := HLx1.out.symm; clear HLx1
  have HBn := Lib.hid (HB.out.trans (hbx1.mono HB.out.size)); clear HB; have HB := HBn; clear HBn
  have HOn := Lib.hid (HOt0.out.belowAll hbx1); clear HOt0; have HOt0 := HOn; clear HOn
  have HOn := Lib.hid (HOt1.out.belowAll hbx1); clear HOt1; have HOt1 := HOn; clear HOn
  have HOn := Lib.hid (HOx0.out.belowAll hbx1); clear HOx0; have HOx0 := HOn; clear HOn
  have HOx1 := Lib.hid hox1.held; have hzx1 := hbx1.size; clear hox1 hbx1
  have hloG : w.heap.size ≤ wx1.heap.size := HB.out.size
  go_wp2_with fail
  refine (bel_eq (eqB_any Ax0 Ax1 cx0 cx1 _ _ l0 l1 r0 _ HOx0.out.seesAll HOx1.out.seesAll HW0.out HW1.out HR0.out)).mono ?_
  rintro e wG ⟨he, hbG⟩
  subst he
  have HBn := Lib.hid (HB.out.trans (hbG.mono HB.out.size)); clear HB; have HB := HBn; clear HBn
  have HOn := Lib.hid (HOt0.out.belowAll hbG); clear HOt0; have HOt0 := HOn; clear HOn
  have HOn := Lib.hid (HOt1.out.belowAll hbG); clear HOt1; have HOt1 := HOn; clear HOn
  have HOn := Lib.hid (HOx0.out.belowAll hbG); clear HOx0; have HOx0 := HOn; clear HOn
  have HOn := Lib.hid (HOx1.out.belowAll hbG); clear HOx1; have HOx1 := HOn; clear HOn
  have hzG := hbG.size; clear hbG
  have hloy0 : w.heap.size ≤ wG.heap.size := HB.out.size
  go_wp2_with fail
  refine (toByteS_any a0 cap0 l0 _ ((HS0.out.below HB.out).mono HB.out.size) (by omega)).mono ?_
  rintro e wy0 ⟨Ay0, cy0, Ly0, HLy0, rfl, hoy0, hby0⟩
  obtain rfl : l0 = Ly0 := HLy0.out.symm; clear HLy0
  have HBn := Lib.hid (HB.out.trans (hby0.mono HB.out.size)); clear HB; have HB := HBn; clear HBn
  have HOn := Lib.hid (HOt0.out.belowAll hby0); clear HOt0; have HOt0 := HOn; clear HOn
  have HOn := Lib.hid (HOt1.out.belowAll hby0); clear HOt1; have HOt1 := HOn; clear HOn
  have HOn := Lib.hid (HOx0.out.belowAll hby0); clear HOx0; have HOx0 := HOn; clear HOn
  have HOn := Lib.hid (HOx1.out.belowAll hby0); clear HOx1; have HOx1 := HOn; clear HOn
  have HOy0 := Lib.hid hoy0.held; have hzy0 := hby0.size; clear hoy0 hby0
  go_wp2_with fail
  refine (eqByteS_yes Ax0 Ay0 cx0 cy0 _ _ l0 l0 _ HOx0.out.seesAll HOy0.out.seesAll (rfl) (by omega)).mono ?_
  rintro e we1 ⟨rfl, hbe1⟩
  have HBn := Lib.hid (HB.out.trans (hbe1.mono HB.out.size)); clear HB; have HB := HBn; clear HBn
  have HOn := Lib.hid (HOt0.out.belowAll hbe1); clear HOt0; have HOt0 := HOn; clear HOn
  have HOn := Lib.hid (HOt1.out.belowAll hbe1); clear HOt1; have HOt1 := HOn; clear HOn
  have HOn := Lib.hid (HOx0.out.belowAll hbe1); clear HOx0; have HOx0 := HOn; clear HOn
  have HOn := Lib.hid (HOx1.out.belowAll hbe1); clear HOx1; have HOx1 := HOn; clear HOn
  have HOn := Lib.hid (HOy0.out.belowAll hbe1); clear HOy0; have HOy0 := HOn; clear HOn
  have hze1 := hbe1.size; clear hbe1
  have hloy1 : w.heap.size ≤ we1.heap.size := HB.out.size
  go_wp2_with fail
  refine (toByteS_any a1 cap1 l1 _ ((HS1.out.below HB.out).mono HB.out.size) (by omega)).mono ?_
  rintro e wy1 ⟨Ay1, cy1, Ly1, HLy1, rfl, hoy1, hby1⟩
  obtain rfl : l1 = Ly1 := HLy1.out.symm; clear HLy1
  have HBn := Lib.hid (HB.out.trans (hby1.mono HB.out.size)); clear HB; have HB := HBn; clear HBn
  have HOn := Lib.hid (HOt0.out.belowAll hby1); clear HOt0; have HOt0 := HOn; clear HOn
  have HOn := Lib.hid (HOt1.out.belowAll hby1); clear HOt1; have HOt1 := HOn; clear HOn
  have HOn := Lib.hid (HOx0.out.belowAll hby1); clear HOx0; have HOx0 := HOn; clear HOn
  have HOn := Lib.hid (HOx1.out.belowAll hby1); clear HOx1; have HOx1 := HOn; clear HOn
  have HOn := Lib.hid (HOy0.out.belowAll hby1); clear HOy0; have HOy0 := HOn; clear HOn
  have HOy1 := Lib.hid hoy1.held; have hzy1 := hby1.size; clear hoy1 hby1
  go_wp2_with fail
  refine (eqByteS_yes Ax1 Ay1 cx1 cy1 _ _ l1 l1 _ HOx1.out.seesAll HOy1.out.seesAll (rfl) (by omega)).mono ?_
  rintro e we2 ⟨rfl, hbe2⟩
  have HBn := Lib.hid (HB.out.trans (hbe2.mono HB.out.size)); clear HB; have HB := HBn; clear HBn
  have HOn := Lib.hid (HOt0.out.belowAll hbe2); clear HOt0; have HOt0 := HOn; clear HOn
  have HOn := Lib.hid (HOt1.out.belowAll hbe2); clear HOt1; have HOt1 := HOn; clear HOn
  have HOn := Lib.hid (HOx0.out.belowAll hbe2); clear HOx0; have HOx0 := HOn; clear HOn
  have HOn := Lib.hid (HOx1.out.belowAll hbe2); clear HOx1; have HOx1 := HOn; clear HOn
  have HOn := Lib.hid (HOy0.out.belowAll hbe2); clear HOy0; have HOy0 := HOn; clear HOn
  have HOn := Lib.hid (HOy1.out.belowAll hbe2); clear HOy1; have HOy1 := HOn; clear HOn
  have hze2 := hbe2.size; clear hbe2
  go_wp2
  go_ret
  exact ⟨rfl, HB.out⟩
end Go.Proofs.Ytnjmohpdmboopaa
