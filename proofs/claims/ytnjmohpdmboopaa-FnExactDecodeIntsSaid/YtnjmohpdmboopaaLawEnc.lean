/- The exact laws of chapter 2 on varints and byte strings: their walks. -/
import Derived.Test.YtnjmohpdmboopaaSRead
namespace Go.Proofs.Ytnjmohpdmboopaa
open Go.RowKit
set_option linter.unusedVariables false

theorem off_wf {n : Int} (h : (Lit.int .i64 n).wf = true) : -9223372036854775808 ≤ n ∧ n ≤ 9223372036854775807 := by
  have e1 : IntKind.i64.min = -9223372036854775808 := rfl
  have e2 : IntKind.i64.max = 9223372036854775807 := rfl
  simp [Lit.wf, e1, e2] at h
  exact h
set_option maxRecDepth 100000 in
theorem law_read (a0 : Option Addr) (len0 cap0 : Nat) (z0 : List Int) (a1 : Int) (w : World) (w0 : IsRow .u8 w a0 len0 cap0 z0) (w1 : (Lit.int .i64 a1).wf = true) :
    Calls Try.prog 6 #[.slice a0 len0 cap0, .int .i64 a1] w fun e w' => e = .returned (.bool true) ∧ Below w.heap.size w w' := by
  obtain ⟨l, rfl, hs, hmax, hwf⟩ := row_sees w0
  have hoff := off_wf w1
  have H8 : Hid (B8 l) := Lib.hid (bytes_wf hwf)
  clear w0 hwf w1
  have HS := Lib.hid hs; clear hs
  by_cases hbig : 1048576 < l.length
  · go_enter Try.func6, Try.ntmps6
    go_wp2
    go_ret
    exact ⟨rfl, Below.refl _ _⟩
  · obtain ⟨n, a, b, hv⟩ := rv_form (readV l a1)
    have HV := Lib.hid hv; clear hv
    go_enter Try.func6, Try.ntmps6
    go_wp2_with fail
    refine (toByteS_any a0 cap0 l _ HS.out (by omega)).mono ?_
    rintro e w1 ⟨A1, c1, L1, HL1, rfl, ho1, hb1⟩
    obtain rfl : l = L1 := HL1.out.symm; clear HL1
    have HS1 := Lib.hid (HS.out.below hb1)
    go_wp2_with fail
    refine (sread_any A1 c1 _ l a1 _ ho1.sees H8.out (by omega) hoff.1 hoff.2).mono ?_
    rintro e w2 ⟨he, rfl⟩
    rw [HV.out] at he; subst he
    go_wp2_with fail
    refine (toByteS_any a0 cap0 l _ (HS1.out.mono hb1.size) (by omega)).mono ?_
    rintro e w3 ⟨A3, c3, L3, HL3, rfl, ho3, hb3⟩
    obtain rfl : l = L3 := HL3.out.symm; clear HL3
    have hbb3 := hb1.trans (hb3.mono hb1.size)
    have HS3 := Lib.hid (HS.out.below hbb3)
    go_wp2_with fail
    refine (read_any A3 c3 l a1 _ ho3.sees H8.out ho3.cap (by omega)).mono ?_
    rintro e w4 ⟨he, hb4⟩
    rw [HV.out] at he; subst he
    have hbb4 := hbb3.trans (hb4.mono hbb3.size)
    have HS4 := Lib.hid (HS.out.below hbb4)
    have HO4 := Lib.hid (ho3.belowAll hb4)
    clear ho1 ho3
    go_wp2_with fail
    refine (toByteS_any a0 cap0 l _ (HS4.out.mono hbb4.size) (by omega)).mono ?_
    rintro e w5 ⟨A5, c5, L5, HL5, rfl, ho5, hb5⟩
    obtain rfl : l = L5 := HL5.out.symm; clear HL5
    have hbb5 := hbb4.trans (hb5.mono hbb4.size)
    have HO5 := Lib.hid (HO4.out.belowAll hb5)
    go_wp2_with fail
    refine (eqByteS_yes A3 A5 c3 c5 _ _ l l _ HO5.out.sees ho5.sees rfl (by omega)).mono ?_
    rintro e w6 ⟨rfl, hb6⟩
    go_wp2
    go_ret
    exact ⟨rfl, hbb5.trans (hb6.mono hbb5.size)⟩
end Go.Proofs.Ytnjmohpdmboopaa
