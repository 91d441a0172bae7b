/- The exact laws of IsName and FindFeature. -/
import Derived.Test.YtiibjppljpfmoaaFeatImpl
import Derived.Test.YtiibjppljpfmoaaOpenF
namespace Go.Proofs.Ytiibjppljpfmoaa
open Go.ChangeShapes Go.WideShapes Go.ChangeAt Go.RowKit
set_option linter.unusedVariables false

set_option maxRecDepth 100000 in
set_option maxHeartbeats 1000000 in
theorem law_FnExactIsName (a0 : ByteArray) (w : World) (w0 : a0.size ≤ maxLen) :
    Calls Try.prog 3 #[.string a0] w fun e w' => e = .returned (.bool true) ∧ Below w.heap.size w w' := by
  obtain ⟨z, hz⟩ : ∃ z, nameV a0 = z := ⟨_, rfl⟩
  have HM := Lib.hid w0
  have HZ := Lib.hid hz
  unfold maxLen at w0
  clear hz
  go_enter Try.func3, Try.ntmps3
  by_cases hb : (1048576 : Int) < (a0.size : Int)
  · go_wp2
    go_ret
    exact ⟨rfl, Below.refl _ _⟩
  · go_wp2_with fail
    refine (sIsName_is a0 z _ HM.out HZ.out).mono ?_
    rintro e w1 ⟨rfl, rfl⟩
    go_wp2_with fail
    refine (isName_is a0 z _ HM.out HZ.out).mono ?_
    rintro e w2 ⟨rfl, hb2⟩
    have HB := Lib.hid hb2
    clear hb2
    cases z
    all_goals
      go_wp2
      go_ret
      exact ⟨rfl, HB.out⟩
theorem few_of {l : List Feat} (h : 0 ≤ szS 1048576 l) : l.length ≤ 1048576 ∧ SmallF l ∧ FewQ l := by
  obtain ⟨h1, -, h2⟩ := szS_ok h
  refine ⟨by omega, fun j f hf => ?_, fun j f hf => ?_⟩
  · have := h2 f (List.mem_of_getElem? hf)
    unfold maxLen
    omega
  · have := h2 f (List.mem_of_getElem? hf)
    omega
set_option maxRecDepth 100000 in
set_option maxHeartbeats 1000000 in
theorem law_FnExactFindFeature (pa0 : Option Addr) (len0 cap0 : Nat) (l0 : List Feat) (a1 : Int) (w : World) (ws0 : ShowsF w pa0 len0 l0) (w1 : (Lit.int .i64 a1).wf = true) :
    Calls Try.prog 6 #[.slice pa0 len0 cap0, .int .i64 a1] w fun e w' => e = .returned (.bool true) ∧ Below w.heap.size w w' := by
  obtain ⟨rfl, hs0, hm0, hM0⟩ := ws0
  have HS0 := Lib.hid hs0
  have HM0 := Lib.hid hM0
  clear hs0 hM0 w1
  obtain ⟨z, hz⟩ : ∃ z, szS 1048576 l0 = z := ⟨_, rfl⟩
  have HZ := Lib.hid hz
  obtain ⟨i, hi⟩ : ∃ i, findV l0 a1 = i := ⟨_, rfl⟩
  have HI := Lib.hid hi
  clear hz hi
  go_enter Try.func6, Try.ntmps6
  go_wp2_with fail
  refine (szFeatureS_is pa0 cap0 l0 1048576 z _ HS0.out (by decide) (by decide) hm0 HM0.out HZ.out).mono ?_
  rintro e v1 ⟨rfl, hb1⟩
  have HB1 := Lib.hid hb1
  clear hb1
  by_cases hneg : z < 0
  · go_wp2
    go_ret
    exact ⟨rfl, HB1.out⟩
  · obtain ⟨hl, hsm, hfq⟩ := few_of (l := l0) (by rw [HZ.out]; omega)
    have HSm := Lib.hid hsm
    have HFq := Lib.hid hfq
    have hl40 : l0.length ≤ 1099511627776 := by omega
    clear hsm hfq
    go_wp2_with fail
    refine (toFeatureS_any pa0 cap0 l0 _ ((HS0.out.below HB1.out).mono HB1.out.size) hl40 HSm.out.few).mono ?_
    rintro e v2 ⟨A2, L2, c2, hL2, rfl, ho2, hb2⟩
    obtain rfl : l0 = L2 := hL2.out.symm
    have HO2 := Lib.hid ho2
    have HB2 := Lib.hid (HB1.out.trans (hb2.mono HB1.out.size))
    clear ho2 hb2 HB1
    go_wp2_with fail
    refine (sFind_is A2 c2 l0 a1 i _ HO2.out.sees hl40 HI.out).mono ?_
    rintro e v3 ⟨rfl, rfl⟩
    go_wp2_with fail
    refine (toFeatureS_any pa0 cap0 l0 _ ((HS0.out.below HB2.out).mono HB2.out.size) hl40 HSm.out.few).mono ?_
    rintro e v3 ⟨A3, L3, c3, hL3, rfl, ho3, hb3⟩
    obtain rfl : l0 = L3 := hL3.out.symm
    have HO3 := Lib.hid ho3
    have HB3 := Lib.hid (HB2.out.trans (hb3.mono HB2.out.size))
    have HC3 := Lib.hid (own_capsF ho3)
    clear ho3 hb3 HB2 HO2
    go_wp2_with fail
    refine (find_is A3 c3 l0 a1 i _ HO3.out.sees hl40 HC3.out.1 HC3.out.2 HI.out).mono ?_
    rintro e v4 ⟨rfl, hb4⟩
    have HO4 := Lib.hid (HO3.out.belowAll hb4)
    have HB4 := Lib.hid (HB3.out.trans (hb4.mono HB3.out.size))
    clear hb4 HO3 HB3
    go_wp2_with fail
    refine (toFeatureS_any pa0 cap0 l0 _ ((HS0.out.below HB4.out).mono HB4.out.size) hl40 HSm.out.few).mono ?_
    rintro e v5 ⟨A5, L5, c5, hL5, rfl, ho5, hb5⟩
    obtain rfl : l0 = L5 := hL5.out.symm
    have HO5 := Lib.hid ho5
    have HO4b := Lib.hid (HO4.out.belowAll hb5)
    have HB5 := Lib.hid (HB4.out.trans (hb5.mono HB4.out.size))
    clear ho5 hb5 HB4 HO4
    go_wp2_with fail
    refine (eqFeatureS_yes A3 A5 c3 c5 l0 _ HO4b.out.sees HO5.out.sees hl40 HSm.out.few).mono ?_
    rintro e v6 ⟨rfl, hb6⟩
    have HB6 := Lib.hid (HB5.out.trans (hb6.mono HB5.out.size))
    clear hb6
    go_wp2
    go_ret
    exact ⟨rfl, HB6.out⟩
end Go.Proofs.Ytiibjppljpfmoaa
