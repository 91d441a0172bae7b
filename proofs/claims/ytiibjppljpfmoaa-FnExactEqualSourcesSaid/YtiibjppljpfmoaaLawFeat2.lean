/- Exact laws over sources: EqualSources, IsSource. -/
import Derived.Test.YtiibjppljpfmoaaFeatImpl
import Derived.Test.YtiibjppljpfmoaaOpenF
namespace Go.Proofs.Ytiibjppljpfmoaa
open Go.ChangeShapes Go.WideShapes Go.ChangeAt Go.RowKit
set_option linter.unusedVariables false

theorem few_le {left : Int} {l : List Feat} (hl : left ≤ 1048576) (h : 0 ≤ szS left l) : l.length ≤ 1048576 ∧ SmallF l ∧ FewQ l := by
  obtain ⟨h1, -, h2⟩ := szS_ok h
  refine ⟨by omega, fun j f hf => ?_, fun j f hf => ?_⟩
  · have := h2 f (List.mem_of_getElem? hf)
    unfold maxLen
    omega
  · have := h2 f (List.mem_of_getElem? hf)
    omega
set_option maxRecDepth 100000 in
set_option maxHeartbeats 2000000 in
theorem law_FnExactEqualSources (pa0 : Option Addr) (len0 cap0 : Nat) (l0 : List Feat) (pa1 : Option Addr) (len1 cap1 : Nat) (l1 : List Feat) (w : World) (ws0 : ShowsF w pa0 len0 l0) (ws1 : ShowsF w pa1 len1 l1) :
    Calls Try.prog 8 #[.slice pa0 len0 cap0, .slice pa1 len1 cap1] w fun e w' => e = .returned (.bool true) ∧ Below w.heap.size w w' := by
  obtain ⟨rfl, hs0, hm0, hM0⟩ := ws0
  have HS0 := Lib.hid hs0
  have HM0 := Lib.hid hM0
  clear hs0 hM0
  obtain ⟨rfl, hs1, hm1, hM1⟩ := ws1
  have HS1 := Lib.hid hs1
  have HM1 := Lib.hid hM1
  clear hs1 hM1
  obtain ⟨z, hz⟩ : ∃ z, decide (l0 = l1) = z := ⟨_, rfl⟩
  have HI := Lib.hid hz
  clear hz
  have HB := Lib.hid (Below.refl w.heap.size w)
  go_enter Try.func8, Try.ntmps8
  have hq0 : (0 : Int) ≤ 1048576 := by decide
  have hq1 : (1048576 : Int) ≤ 1048576 := by decide
  obtain ⟨m0, hmz0⟩ : ∃ m, szS 1048576 l0 = m := ⟨_, rfl⟩
  have HZ0 := Lib.hid hmz0
  clear hmz0
  go_wp2_with fail
  refine (szFeatureS_is pa0 cap0 l0 1048576 m0 _ ((HS0.out.below HB.out).mono HB.out.size) hq0 hq1 hm0 HM0.out HZ0.out).mono ?_
  rintro e v ⟨rfl, hb⟩
  have HB' := Lib.hid (HB.out.trans (hb.mono HB.out.size))
  clear HB hb 
  have HB := HB'
  clear HB'
  by_cases hneg0 : m0 < 0
  · go_wp2
    go_ret
    exact ⟨rfl, HB.out⟩
  obtain ⟨hl0, hsm0, hfq0⟩ := few_le (left := 1048576) (l := l0) hq1 (by rw [HZ0.out]; omega)
  have HSm0 := Lib.hid hsm0
  have HFq0 := Lib.hid hfq0
  have h400 : l0.length ≤ 1099511627776 := by omega
  clear hsm0 hfq0
  have hq0' : 0 ≤ m0 := by omega
  have hq1' : m0 ≤ 1048576 := by have := (szS_ok (left := 1048576) (l := l0) (by rw [HZ0.out]; omega)).2.1; rw [HZ0.out] at this; omega
  clear hq0 hq1
  have hq0 := hq0'
  have hq1 := hq1'
  clear hq0' hq1'
  obtain ⟨m1, hmz1⟩ : ∃ m, szS m0 l1 = m := ⟨_, rfl⟩
  have HZ1 := Lib.hid hmz1
  clear hmz1
  go_wp2_with fail
  refine (szFeatureS_is pa1 cap1 l1 m0 m1 _ ((HS1.out.below HB.out).mono HB.out.size) hq0 hq1 hm1 HM1.out HZ1.out).mono ?_
  rintro e v ⟨rfl, hb⟩
  have HB' := Lib.hid (HB.out.trans (hb.mono HB.out.size))
  clear HB hb 
  have HB := HB'
  clear HB'
  by_cases hneg1 : m1 < 0
  · go_wp2
    go_ret
    exact ⟨rfl, HB.out⟩
  obtain ⟨hl1, hsm1, hfq1⟩ := few_le (left := m0) (l := l1) hq1 (by rw [HZ1.out]; omega)
  have HSm1 := Lib.hid hsm1
  have HFq1 := Lib.hid hfq1
  have h401 : l1.length ≤ 1099511627776 := by omega
  clear hsm1 hfq1
  have hq0' : 0 ≤ m1 := by omega
  have hq1' : m1 ≤ 1048576 := by have := (szS_ok (left := m0) (l := l1) (by rw [HZ1.out]; omega)).2.1; rw [HZ1.out] at this; omega
  clear hq0 hq1
  have hq0 := hq0'
  have hq1 := hq1'
  clear hq0' hq1'
  go_wp2_with fail
  refine (toFeatureS_any pa0 cap0 l0 _ ((HS0.out.below HB.out).mono HB.out.size) h400 HSm0.out.few).mono ?_
  rintro e v ⟨As0, Ls0, cs0, hLs0, rfl, hos0, hb⟩
  obtain rfl : l0 = Ls0 := hLs0.out.symm
  have HNs0 := Lib.hid hos0
  clear hos0
  have HB' := Lib.hid (HB.out.trans (hb.mono HB.out.size))
  clear HB hb 
  have HB := HB'
  clear HB'
  have Hs0 := HNs0
  clear HNs0
  go_wp2_with fail
  refine (toFeatureS_any pa1 cap1 l1 _ ((HS1.out.below HB.out).mono HB.out.size) h401 HSm1.out.few).mono ?_
  rintro e v ⟨As1, Ls1, cs1, hLs1, rfl, hos1, hb⟩
  obtain rfl : l1 = Ls1 := hLs1.out.symm
  have HNs1 := Lib.hid hos1
  clear hos1
  have HB' := Lib.hid (HB.out.trans (hb.mono HB.out.size))
  have Hs0' := Lib.hid (Hs0.out.belowAll hb)
  clear HB hb Hs0
  have HB := HB'
  clear HB'
  have Hs0 := Hs0'
  clear Hs0'
  have Hs1 := HNs1
  clear HNs1
  go_wp2_with fail
  refine (sEqL_is As0 As1 cs0 cs1 l0 l1 z _ Hs0.out.sees Hs1.out.sees h400 HFq0.out HI.out).mono ?_
  rintro e v ⟨rfl, hb⟩
  have HB' := Lib.hid (HB.out.trans (hb.mono HB.out.size))
  have Hs0' := Lib.hid (Hs0.out.belowAll hb)
  have Hs1' := Lib.hid (Hs1.out.belowAll hb)
  clear HB hb Hs0 Hs1
  have HB := HB'
  clear HB'
  have Hs0 := Hs0'
  clear Hs0'
  have Hs1 := Hs1'
  clear Hs1'
  clear Hs0
  clear Hs1
  go_wp2_with fail
  refine (toFeatureS_any pa0 cap0 l0 _ ((HS0.out.below HB.out).mono HB.out.size) h400 HSm0.out.few).mono ?_
  rintro e v ⟨Ax0, Lx0, cx0, hLx0, rfl, hox0, hb⟩
  obtain rfl : l0 = Lx0 := hLx0.out.symm
  have HNx0 := Lib.hid hox0
  clear hox0
  have HB' := Lib.hid (HB.out.trans (hb.mono HB.out.size))
  clear HB hb 
  have HB := HB'
  clear HB'
  have Hx0 := HNx0
  clear HNx0
  go_wp2_with fail
  refine (toFeatureS_any pa1 cap1 l1 _ ((HS1.out.below HB.out).mono HB.out.size) h401 HSm1.out.few).mono ?_
  rintro e v ⟨Ax1, Lx1, cx1, hLx1, rfl, hox1, hb⟩
  obtain rfl : l1 = Lx1 := hLx1.out.symm
  have HNx1 := Lib.hid hox1
  clear hox1
  have HB' := Lib.hid (HB.out.trans (hb.mono HB.out.size))
  have Hx0' := Lib.hid (Hx0.out.belowAll hb)
  clear HB hb Hx0
  have HB := HB'
  clear HB'
  have Hx0 := Hx0'
  clear Hx0'
  have Hx1 := HNx1
  clear HNx1
  have HC0 := Lib.hid (own_capsF Hx0.out)
  have HC1 := Lib.hid (own_capsF Hx1.out)
  go_wp2_with fail
  refine (eqL_is Ax0 Ax1 cx0 cx1 l0 l1 z _ Hx0.out.sees Hx1.out.sees h400 HC0.out.1 HC0.out.2 HC1.out.1 HC1.out.2 HFq0.out HFq1.out HI.out).mono ?_
  rintro e v ⟨rfl, hb⟩
  have HB' := Lib.hid (HB.out.trans (hb.mono HB.out.size))
  have Hx0' := Lib.hid (Hx0.out.belowAll hb)
  have Hx1' := Lib.hid (Hx1.out.belowAll hb)
  clear HB hb Hx0 Hx1
  have HB := HB'
  clear HB'
  have Hx0 := Hx0'
  clear Hx0'
  have Hx1 := Hx1'
  clear Hx1'
  cases z
  all_goals
    go_wp2_with fail
    refine (toFeatureS_any pa0 cap0 l0 _ ((HS0.out.below HB.out).mono HB.out.size) h400 HSm0.out.few).mono ?_
    rintro e v ⟨Ay0, Ly0, cy0, hLy0, rfl, hoy0, hb⟩
    obtain rfl : l0 = Ly0 := hLy0.out.symm
    have HNy0 := Lib.hid hoy0
    clear hoy0
    have HB' := Lib.hid (HB.out.trans (hb.mono HB.out.size))
    have Hx0' := Lib.hid (Hx0.out.belowAll hb)
    have Hx1' := Lib.hid (Hx1.out.belowAll hb)
    clear HB hb Hx0 Hx1
    have HB := HB'
    clear HB'
    have Hx0 := Hx0'
    clear Hx0'
    have Hx1 := Hx1'
    clear Hx1'
    have Hy0 := HNy0
    clear HNy0
    go_wp2_with fail
    refine (eqFeatureS_yes Ax0 Ay0 cx0 cy0 l0 _ Hx0.out.sees Hy0.out.sees h400 HSm0.out.few).mono ?_
    rintro e v ⟨rfl, hb⟩
    have HB' := Lib.hid (HB.out.trans (hb.mono HB.out.size))
    have Hx0' := Lib.hid (Hx0.out.belowAll hb)
    have Hx1' := Lib.hid (Hx1.out.belowAll hb)
    have Hy0' := Lib.hid (Hy0.out.belowAll hb)
    clear HB hb Hx0 Hx1 Hy0
    have HB := HB'
    clear HB'
    have Hx0 := Hx0'
    clear Hx0'
    have Hx1 := Hx1'
    clear Hx1'
    have Hy0 := Hy0'
    clear Hy0'
    clear Hy0
    go_wp2_with fail
    refine (toFeatureS_any pa1 cap1 l1 _ ((HS1.out.below HB.out).mono HB.out.size) h401 HSm1.out.few).mono ?_
    rintro e v ⟨Ay1, Ly1, cy1, hLy1, rfl, hoy1, hb⟩
    obtain rfl : l1 = Ly1 := hLy1.out.symm
    have HNy1 := Lib.hid hoy1
    clear hoy1
    have HB' := Lib.hid (HB.out.trans (hb.mono HB.out.size))
    have Hx0' := Lib.hid (Hx0.out.belowAll hb)
    have Hx1' := Lib.hid (Hx1.out.belowAll hb)
    clear HB hb Hx0 Hx1
    have HB := HB'
    clear HB'
    have Hx0 := Hx0'
    clear Hx0'
    have Hx1 := Hx1'
    clear Hx1'
    have Hy1 := HNy1
    clear HNy1
    go_wp2_with fail
    refine (eqFeatureS_yes Ax1 Ay1 cx1 cy1 l1 _ Hx1.out.sees Hy1.out.sees h401 HSm1.out.few).mono ?_
    rintro e v ⟨rfl, hb⟩
    have HB' := Lib.hid (HB.out.trans (hb.mono HB.out.size))
    have Hx0' := Lib.hid (Hx0.out.belowAll hb)
    have Hx1' := Lib.hid (Hx1.out.belowAll hb)
    have Hy1' := Lib.hid (Hy1.out.belowAll hb)
    clear HB hb Hx0 Hx1 Hy1
    have HB := HB'
    clear HB'
    have Hx0 := Hx0'
    clear Hx0'
    have Hx1 := Hx1'
    clear Hx1'
    have Hy1 := Hy1'
    clear Hy1'
    clear Hy1
    go_wp2
    go_ret
    exact ⟨rfl, HB.out⟩
end Go.Proofs.Ytiibjppljpfmoaa
