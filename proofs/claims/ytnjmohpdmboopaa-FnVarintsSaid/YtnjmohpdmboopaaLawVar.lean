/- The laws FnVarints and FnByteStrings: their walks, for every input. -/
import Derived.Test.YtnjmohpdmboopaaDrawEnc
import Derived.Test.YtnjmohpdmboopaaDecI
import Derived.Deep.RegionHeld3
namespace Go.Proofs.Ytnjmohpdmboopaa
open Go.RowKit
set_option linter.unusedVariables false

theorem cut_len {Y : List Int} {k a : Nat} (h : k ≤ a) (ha : a ≤ Y.length) : ((Y.drop k).take (a - k)).length = a - k := by rw [List.length_take, List.length_drop]; omega
set_option maxRecDepth 100000 in
set_option maxHeartbeats 2000000 in
theorem law_varints (a0 : Option Addr) (len0 cap0 : Nat) (z0 : List Int) (w : World) (w0 : IsRow .u8 w a0 len0 cap0 z0) :
    Calls Try.prog 3 #[.slice a0 len0 cap0] w fun e w' => e = .returned (.bool true) ∧ Below w.heap.size w w' := by
  have hcd := code_of_row w0
  clear w0
  have HCD := Lib.hid hcd
  have hlen := hcd.1
  clear hcd
  by_cases hbig : 1048576 < len0
  · go_enter Try.func3, Try.ntmps3
    go_wp2_with fail
    refine (big_yes a0 len0 cap0 _ hbig).mono ?_
    rintro e w0 ⟨rfl, rfl⟩
    go_wp2
    go_ret
    exact ⟨rfl, Below.refl _ _⟩
  · go_enter Try.func3, Try.ntmps3
    go_wp2_with fail
    refine (big_no a0 len0 cap0 _ (by omega)).mono ?_
    rintro e w0 ⟨rfl, rfl⟩
    go_wp2_with fail
    refine (drawAppU_any a0 len0 cap0 _ _ HCD.out).mono ?_
    rintro e w1 ⟨A1, c1, L, n, h8, hL, hn0, hn1, rfl, ho1, hb1⟩
    have H8 : Hid (B8 L) := Lib.hid h8; clear h8
    have HB1 := Lib.hid hb1; clear hb1
    have HO1 := Lib.hid ho1; clear ho1
    have hE := enc_len n
    go_wp2_with fail
    refine (appU_any A1 c1 L n _ HO1.out.sees (by omega)).mono ?_
    rintro e w2 ⟨A2, c2, X, HX, rfl, ho2, hb2⟩
    have hXl : X.length ≤ L.length + 6 := by rw [HX.out, List.length_append]; omega
    have HX8 : Hid (B8 X) := Lib.hid (by rw [HX.out]; exact H8.out.append (enc_B8 n))
    have HB2 := Lib.hid (HB1.out.trans (hb2.mono HB1.out.size))
    have HO1' := Lib.hid (HO1.out.belowAll hb2)
    have HO2 := Lib.hid ho2
    clear ho2 hb2 HO1
    go_wp2_with fail
    refine (read_any A2 c2 X L.length _ HO2.out.sees HX8.out HO2.out.cap (by omega)).mono ?_
    rintro e w3 ⟨he, hb3⟩
    have HB3 := Lib.hid (HB2.out.trans (hb3.mono HB2.out.size))
    have HO1 := Lib.hid (HO1'.out.belowAll hb3)
    have HO2' := Lib.hid (HO2.out.belowAll hb3)
    clear hb3 HO1' HO2
    have hcase : (∃ m : Nat, n = m ∧ m ≤ 1000000000000 ∧ rvV (readV X L.length) = .tuple #[.int .i64 m, .int .i64 X.length, .bool true]) ∨
        ((n < 0 ∨ 1000000000000 < n) ∧ X = L ∧ rvV (readV X L.length) = .tuple #[.int .i64 0, .int .i64 0, .bool false]) := by
      by_cases h : 0 ≤ n ∧ n ≤ 1000000000000
      · obtain ⟨m, rfl⟩ : ∃ m : Nat, n = m := ⟨n.toNat, by omega⟩
        have hm : m ≤ 1000000000000 := by omega
        have e1 : X = L ++ (uv m ++ []) := by rw [HX.out, enc_in hm, List.append_nil]
        refine .inl ⟨m, rfl, hm, ?_⟩
        rw [e1, readV_uv L [] hm]
        simp [rvV]
      · have e1 : X = L := by rw [HX.out, enc_out h, List.append_nil]
        refine .inr ⟨by omega, e1, ?_⟩
        rw [e1, readV_end]; rfl
    rcases hcase with ⟨m, rfl, hm, hv⟩ | ⟨hout, hXL, hv⟩
    · rw [hv] at he; subst he; clear hv
      have HBx := HB3
      go_wp2_with fail
      refine (drawReadU_any a0 len0 cap0 _ _ (code_below HCD.out HBx.out)).mono ?_
      rintro e w5 ⟨A5, c5, Y, off, hy8, hYl, hf0, hf1, rfl, ho5, hb5⟩
      have HY8 : Hid (B8 Y) := Lib.hid hy8; clear hy8
      have HB5 := Lib.hid (HBx.out.trans (hb5.mono HBx.out.size))
      have HO5 := Lib.hid ho5
      clear hb5 ho5
      go_wp2_with fail
      refine (read_any A5 c5 Y off _ HO5.out.sees HY8.out HO5.out.cap (by omega)).mono ?_
      rintro e w6 ⟨he, hb6⟩
      have HB6 := Lib.hid (HB5.out.trans (hb6.mono HB5.out.size))
      have HO6 := Lib.hid (HO5.out.belowAll hb6)
      clear hb6 HO5
      match hr : readV Y off with
      | none =>
        rw [hr] at he; unfold rvV at he; subst he
        have HR := Lib.hid hr; clear hr
        go_wp2_with fail
        refine (sread_any A5 c5 _ Y off _ HO6.out.sees HY8.out (by omega) hf0 hf1).mono ?_
        rintro e w7 ⟨he, rfl⟩
        rw [HR.out] at he; unfold rvV at he; subst he
        go_wp2
        go_ret
        exact ⟨rfl, HB6.out⟩
      | some (m2, a2) =>
        obtain ⟨k, hk, hka, hal, hm2, huv⟩ := readV_inv HY8.out hr
        subst hk
        rw [hr] at he; unfold rvV at he; subst he
        clear hr
        have HU := Lib.hid huv; clear huv
        have hcap := HO6.out.cap
        have hca : ¬ c5 = k := by omega
        have hg1 : (a2 : Int) ≤ (Y.length : Int) := by omega
        have hg2 : (k : Int) < (a2 : Int) := by omega
        have hg3 : (0 : Int) ≤ (k : Int) := by omega
        have hg4 : (k : Int) ≤ (a2 : Int) := by omega
        have hg5 : (a2 : Int) ≤ (c5 : Int) := by omega
        go_wp2_with fail
        go_region_held3 (fun _ => True) (trivial) (first
          | (go_at_call 14; refine (appU_any _ 0 [] m2 _ Sees.nil (by simp)).mono ?_; rintro e w7 ⟨A7, c7, Z, HZ, rfl, ho7, hb7⟩)
          | (go_at_call 16; refine (sameBytes_n A7 _ _ _ c7 _ _ _ Z ((Y.drop k).take (a2 - k)) _ rfl (by rw [cut_len (by omega) hal]) ho7.sees (Sees.cut (Own.sees (Own.belowAll (show Own (w6.alloc (.cells #[] 5)).drew _ _ _ _ _ from HO6.out.alloc _) hb7)) k (a2 - k) _ (fun _ => rfl)) (HZ.out.trans ((List.nil_append _).trans ((enc_in hm2).trans HU.out))) (by have h1 := enc_len (m2 : Int); rw [HZ.out, List.nil_append]; omega)).mono ?_; rintro e w8 ⟨rfl, hb8⟩))
        go_wp2
        go_ret
        exact ⟨rfl, ((HB6.out.alloc HB6.out.size (.cells #[] 5)).drew.trans (hb7.mono (Nat.le_trans HB6.out.size (by simp)))).trans (hb8.mono (Nat.le_trans (Nat.le_trans HB6.out.size (by simp)) hb7.size))⟩
    · rw [hv] at he; subst he; clear hv
      have HXL := Lib.hid hXL; clear hXL
      rcases hout with hout | hout
      · go_wp2_with (go_at_call 16; refine (sameBytes_yes A2 A1 c2 c1 _ _ X L _ HO2'.out.sees HO1.out.sees HXL.out (by omega)).mono ?_; rintro e w4 ⟨rfl, hb4⟩)
        have HBx := Lib.hid (HB3.out.trans (hb4.mono HB3.out.size))
        clear hb4
        go_wp2_with fail
        refine (drawReadU_any a0 len0 cap0 _ _ (code_below HCD.out HBx.out)).mono ?_
        rintro e w5 ⟨A5, c5, Y, off, hy8, hYl, hf0, hf1, rfl, ho5, hb5⟩
        have HY8 : Hid (B8 Y) := Lib.hid hy8; clear hy8
        have HB5 := Lib.hid (HBx.out.trans (hb5.mono HBx.out.size))
        have HO5 := Lib.hid ho5
        clear hb5 ho5
        go_wp2_with fail
        refine (read_any A5 c5 Y off _ HO5.out.sees HY8.out HO5.out.cap (by omega)).mono ?_
        rintro e w6 ⟨he, hb6⟩
        have HB6 := Lib.hid (HB5.out.trans (hb6.mono HB5.out.size))
        have HO6 := Lib.hid (HO5.out.belowAll hb6)
        clear hb6 HO5
        match hr : readV Y off with
        | none =>
          rw [hr] at he; unfold rvV at he; subst he
          have HR := Lib.hid hr; clear hr
          go_wp2_with fail
          refine (sread_any A5 c5 _ Y off _ HO6.out.sees HY8.out (by omega) hf0 hf1).mono ?_
          rintro e w7 ⟨he, rfl⟩
          rw [HR.out] at he; unfold rvV at he; subst he
          go_wp2
          go_ret
          exact ⟨rfl, HB6.out⟩
        | some (m2, a2) =>
          obtain ⟨k, hk, hka, hal, hm2, huv⟩ := readV_inv HY8.out hr
          subst hk
          rw [hr] at he; unfold rvV at he; subst he
          clear hr
          have HU := Lib.hid huv; clear huv
          have hcap := HO6.out.cap
          have hca : ¬ c5 = k := by omega
          have hg1 : (a2 : Int) ≤ (Y.length : Int) := by omega
          have hg2 : (k : Int) < (a2 : Int) := by omega
          have hg3 : (0 : Int) ≤ (k : Int) := by omega
          have hg4 : (k : Int) ≤ (a2 : Int) := by omega
          have hg5 : (a2 : Int) ≤ (c5 : Int) := by omega
          go_wp2_with fail
          go_region_held3 (fun _ => True) (trivial) (first
            | (go_at_call 14; refine (appU_any _ 0 [] m2 _ Sees.nil (by simp)).mono ?_; rintro e w7 ⟨A7, c7, Z, HZ, rfl, ho7, hb7⟩)
            | (go_at_call 16; refine (sameBytes_n A7 _ _ _ c7 _ _ _ Z ((Y.drop k).take (a2 - k)) _ rfl (by rw [cut_len (by omega) hal]) ho7.sees (Sees.cut (Own.sees (Own.belowAll (show Own (w6.alloc (.cells #[] 5)).drew _ _ _ _ _ from HO6.out.alloc _) hb7)) k (a2 - k) _ (fun _ => rfl)) (HZ.out.trans ((List.nil_append _).trans ((enc_in hm2).trans HU.out))) (by have h1 := enc_len (m2 : Int); rw [HZ.out, List.nil_append]; omega)).mono ?_; rintro e w8 ⟨rfl, hb8⟩))
          go_wp2
          go_ret
          exact ⟨rfl, ((HB6.out.alloc HB6.out.size (.cells #[] 5)).drew.trans (hb7.mono (Nat.le_trans HB6.out.size (by simp)))).trans (hb8.mono (Nat.le_trans (Nat.le_trans HB6.out.size (by simp)) hb7.size))⟩
      · go_wp2_with (go_at_call 16; refine (sameBytes_yes A2 A1 c2 c1 _ _ X L _ HO2'.out.sees HO1.out.sees HXL.out (by omega)).mono ?_; rintro e w4 ⟨rfl, hb4⟩)
        have HBx := Lib.hid (HB3.out.trans (hb4.mono HB3.out.size))
        clear hb4
        go_wp2_with fail
        refine (drawReadU_any a0 len0 cap0 _ _ (code_below HCD.out HBx.out)).mono ?_
        rintro e w5 ⟨A5, c5, Y, off, hy8, hYl, hf0, hf1, rfl, ho5, hb5⟩
        have HY8 : Hid (B8 Y) := Lib.hid hy8; clear hy8
        have HB5 := Lib.hid (HBx.out.trans (hb5.mono HBx.out.size))
        have HO5 := Lib.hid ho5
        clear hb5 ho5
        go_wp2_with fail
        refine (read_any A5 c5 Y off _ HO5.out.sees HY8.out HO5.out.cap (by omega)).mono ?_
        rintro e w6 ⟨he, hb6⟩
        have HB6 := Lib.hid (HB5.out.trans (hb6.mono HB5.out.size))
        have HO6 := Lib.hid (HO5.out.belowAll hb6)
        clear hb6 HO5
        match hr : readV Y off with
        | none =>
          rw [hr] at he; unfold rvV at he; subst he
          have HR := Lib.hid hr; clear hr
          go_wp2_with fail
          refine (sread_any A5 c5 _ Y off _ HO6.out.sees HY8.out (by omega) hf0 hf1).mono ?_
          rintro e w7 ⟨he, rfl⟩
          rw [HR.out] at he; unfold rvV at he; subst he
          go_wp2
          go_ret
          exact ⟨rfl, HB6.out⟩
        | some (m2, a2) =>
          obtain ⟨k, hk, hka, hal, hm2, huv⟩ := readV_inv HY8.out hr
          subst hk
          rw [hr] at he; unfold rvV at he; subst he
          clear hr
          have HU := Lib.hid huv; clear huv
          have hcap := HO6.out.cap
          have hca : ¬ c5 = k := by omega
          have hg1 : (a2 : Int) ≤ (Y.length : Int) := by omega
          have hg2 : (k : Int) < (a2 : Int) := by omega
          have hg3 : (0 : Int) ≤ (k : Int) := by omega
          have hg4 : (k : Int) ≤ (a2 : Int) := by omega
          have hg5 : (a2 : Int) ≤ (c5 : Int) := by omega
          go_wp2_with fail
          go_region_held3 (fun _ => True) (trivial) (first
            | (go_at_call 14; refine (appU_any _ 0 [] m2 _ Sees.nil (by simp)).mono ?_; rintro e w7 ⟨A7, c7, Z, HZ, rfl, ho7, hb7⟩)
            | (go_at_call 16; refine (sameBytes_n A7 _ _ _ c7 _ _ _ Z ((Y.drop k).take (a2 - k)) _ rfl (by rw [cut_len (by omega) hal]) ho7.sees (Sees.cut (Own.sees (Own.belowAll (show Own (w6.alloc (.cells #[] 5)).drew _ _ _ _ _ from HO6.out.alloc _) hb7)) k (a2 - k) _ (fun _ => rfl)) (HZ.out.trans ((List.nil_append _).trans ((enc_in hm2).trans HU.out))) (by have h1 := enc_len (m2 : Int); rw [HZ.out, List.nil_append]; omega)).mono ?_; rintro e w8 ⟨rfl, hb8⟩))
          go_wp2
          go_ret
          exact ⟨rfl, ((HB6.out.alloc HB6.out.size (.cells #[] 5)).drew.trans (hb7.mono (Nat.le_trans HB6.out.size (by simp)))).trans (hb8.mono (Nat.le_trans (Nat.le_trans HB6.out.size (by simp)) hb7.size))⟩
end Go.Proofs.Ytnjmohpdmboopaa
