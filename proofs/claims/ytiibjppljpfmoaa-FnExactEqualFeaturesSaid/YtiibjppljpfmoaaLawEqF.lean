/- The exact law of EqualFeatures. -/
import Derived.Test.YtiibjppljpfmoaaFeatImpl
import Derived.Test.YtiibjppljpfmoaaOpenF
import Derived.Test.YtiibjppljpfmoaaOneVar
namespace Go.Proofs.Ytiibjppljpfmoaa
open Go.ChangeShapes Go.WideShapes Go.ChangeAt Go.RowKit
set_option linter.unusedVariables false

section
variable {w0 w w' : World} {l : List (Array Value)} {m b : Nat} {v0 v1 v2 v3 v4 u0 u1 u2 u3 u4 : Value} {cs : Array Value}
theorem Vars.c55 (h : Vars w0 w (#[v0, v1, v2, v3, v4] :: #[u0, u1, u2, u3, u4] :: l)) :
    w.cell? ⟨w0.heap.size, 0, none⟩ = some v0 ∧ w.cell? ⟨w0.heap.size, 1, none⟩ = some v1 ∧ w.cell? ⟨w0.heap.size, 2, none⟩ = some v2 ∧ w.cell? ⟨w0.heap.size, 3, none⟩ = some v3 ∧ w.cell? ⟨w0.heap.size, 4, none⟩ = some v4 ∧
    w.cell? ⟨w0.heap.size + 1, 0, none⟩ = some u0 ∧ w.cell? ⟨w0.heap.size + 1, 1, none⟩ = some u1 ∧ w.cell? ⟨w0.heap.size + 1, 2, none⟩ = some u2 ∧ w.cell? ⟨w0.heap.size + 1, 3, none⟩ = some u3 ∧ w.cell? ⟨w0.heap.size + 1, 4, none⟩ = some u4 :=
  ⟨h.cell _ 0 0 rfl rfl rfl, h.cell _ 0 1 rfl rfl rfl, h.cell _ 0 2 rfl rfl rfl, h.cell _ 0 3 rfl rfl rfl, h.cell _ 0 4 rfl rfl rfl, h.cell _ 1 0 rfl rfl rfl, h.cell _ 1 1 rfl rfl rfl, h.cell _ 1 2 rfl rfl rfl, h.cell _ 1 3 rfl rfl rfl, h.cell _ 1 4 rfl rfl rfl⟩
theorem Vars.c55l (h : Vars w0 w (#[v0, v1, v2, v3, v4] :: #[u0, u1, u2, u3, u4] :: l)) :
    w.cell? ⟨w0.heap.size, 0, none⟩ = some v0 ∧ w.cell? ⟨w0.heap.size, 1, none⟩ = some v1 ∧ w.cell? ⟨w0.heap.size, 2, none⟩ = some v2 ∧ w.cell? ⟨w0.heap.size, 3, none⟩ = some v3 ∧ w.cell? ⟨w0.heap.size, 4, none⟩ = some v4 :=
  ⟨h.cell _ 0 0 rfl rfl rfl, h.cell _ 0 1 rfl rfl rfl, h.cell _ 0 2 rfl rfl rfl, h.cell _ 0 3 rfl rfl rfl, h.cell _ 0 4 rfl rfl rfl⟩
theorem Vars.c55r (h : Vars w0 w (#[v0, v1, v2, v3, v4] :: #[u0, u1, u2, u3, u4] :: l)) :
    w.cell? ⟨w0.heap.size + 1, 0, none⟩ = some u0 ∧ w.cell? ⟨w0.heap.size + 1, 1, none⟩ = some u1 ∧ w.cell? ⟨w0.heap.size + 1, 2, none⟩ = some u2 ∧ w.cell? ⟨w0.heap.size + 1, 3, none⟩ = some u3 ∧ w.cell? ⟨w0.heap.size + 1, 4, none⟩ = some u4 :=
  ⟨h.cell _ 1 0 rfl rfl rfl, h.cell _ 1 1 rfl rfl rfl, h.cell _ 1 2 rfl rfl rfl, h.cell _ 1 3 rfl rfl rfl, h.cell _ 1 4 rfl rfl rfl⟩
theorem both5 {p0 p1 p2 p3 p4 q : Prop} (h : p0 ∧ p1 ∧ p2 ∧ p3 ∧ p4) (h' : q) : p0 ∧ p1 ∧ p2 ∧ p3 ∧ p4 ∧ q := ⟨h.1, h.2.1, h.2.2.1, h.2.2.2.1, h.2.2.2.2, h'⟩
theorem OneV.c5 (h : OneV m w b #[v0, v1, v2, v3, v4]) : w.cell? ⟨b, 0, none⟩ = some v0 ∧ w.cell? ⟨b, 1, none⟩ = some v1 ∧ w.cell? ⟨b, 2, none⟩ = some v2 ∧ w.cell? ⟨b, 3, none⟩ = some v3 ∧ w.cell? ⟨b, 4, none⟩ = some v4 :=
  ⟨h.cell 0 rfl, h.cell 1 rfl, h.cell 2 rfl, h.cell 3 rfl, h.cell 4 rfl⟩
end
set_option maxRecDepth 100000 in
set_option maxHeartbeats 2000000 in
theorem law_FnExactEqualFeatures (a k r : Int) (s : ByteArray) (A : Option Addr) (m c : Nat) (ps : List (Int × Int)) (a' k' r' : Int) (s' : ByteArray) (A' : Option Addr) (m' c' : Nat) (ps' : List (Int × Int)) (w : World) (wf0 : ShowsFt w s A m c ps) (wf1 : ShowsFt w s' A' m' c' ps') :
    Calls Try.prog 7 #[FtV a k r s A m c, FtV a' k' r' s' A' m' c'] w fun e w' => e = .returned (.bool true) ∧ Below w.heap.size w w' := by
  obtain ⟨hs0, ⟨rfl, hp0, hm0⟩, -, -⟩ := wf0
  obtain ⟨hs1, ⟨rfl, hp1, hm1⟩, -, -⟩ := wf1
  have HV0 := Lib.hid (Vars.of2 w (FtC a k r s A ps.length c) (FtC a' k' r' s' A' ps'.length c') 25 25)
  have HP0 := Lib.hid hp0
  have HP1 := Lib.hid hp1
  have HS0 := Lib.hid hs0
  have HS1 := Lib.hid hs1
  obtain ⟨z, hz⟩ : ∃ z, decide ((a, k, r, s, ps) = (a', k', r', s', ps')) = z := ⟨_, rfl⟩
  have HZ := Lib.hid hz
  obtain ⟨m0, hmz0⟩ : ∃ m, szF 1048576 (a, k, r, s, ps) = m := ⟨_, rfl⟩
  have HM0 := Lib.hid hmz0
  clear hp0 hp1 hs0 hs1 hz hmz0
  go_enter Try.func7, Try.ntmps7
  go_upto_region 2 with fail
  generalize ((w.alloc (.cells (FtC a k r s A ps.length c) 25)).alloc (.cells (FtC a' k' r' s' A' ps'.length c') 25)) = wz at HV0 ⊢
  obtain ⟨k0, k1, k2, k3, k4, k5, k6, k7, k8, k9⟩ := HV0.out.c55
  go_wp2_with fail
  refine (szFeature_is a k r s A c ps 1048576 m0 _ (by decide) (by decide) HS0.out hm0 HM0.out).mono ?_
  rintro e w1 ⟨rfl, hb1⟩
  have HV1 := Lib.hid (HV0.out.next hb1)
  clear hb1 HV0 k0 k1 k2 k3 k4 k5 k6 k7 k8 k9
  by_cases hneg0 : m0 < 0
  · go_wp2
    go_ret
    exact ⟨rfl, HV1.out.1⟩
  have hq0 := szF_le (left := 1048576) (f := (a, k, r, s, ps)) (by rw [HM0.out]; omega)
  obtain ⟨hq1, hq2, hq3⟩ := hq0
  rw [HM0.out] at hq1
  dsimp only at hq2 hq3
  obtain ⟨m1, hmz1⟩ : ∃ m, szF m0 (a', k', r', s', ps') = m := ⟨_, rfl⟩
  have HM1 := Lib.hid hmz1
  have hl0 : ps.length ≤ 1099511627776 := by omega
  have hm00 : 0 ≤ m0 := by omega
  clear hmz1 hq2 hq3
  obtain ⟨k0, k1, k2, k3, k4, k5, k6, k7, k8, k9⟩ := HV1.out.c55
  go_wp2_with fail
  refine (szFeature_is a' k' r' s' A' c' ps' m0 m1 _ hm00 hq1 HS1.out hm1 HM1.out).mono ?_
  rintro e w2 ⟨rfl, hb2⟩
  have HV2 := Lib.hid (HV1.out.next hb2)
  clear hb2 HV1 k0 k1 k2 k3 k4 k5 k6 k7 k8 k9
  by_cases hneg1 : m1 < 0
  · go_wp2
    go_ret
    exact ⟨rfl, HV2.out.1⟩
  have hq4 := (szF_le (left := m0) (f := (a', k', r', s', ps')) (by rw [HM1.out]; omega)).2.2
  dsimp only at hq4
  have hl1 : ps'.length ≤ 1099511627776 := by omega
  clear hq4
  go_upto_region 8 with fail
  go_cut [6] (fun s6 wx => s6 = .bool z ∧ Hid (Vars w wx [FtC a k r s A ps.length c, FtC a' k' r' s' A' ps'.length c']))
  case first =>
    obtain ⟨k0, k1, k2, k3, k4, k5, k6, k7, k8, k9⟩ := HV2.out.c55
    have HVd := Lib.hid HV2.out.drew
    have HKd := Lib.hid HVd.out.c55
    have HPd0 := Lib.hid ((HP0.out.below HVd.out.1).mono HVd.out.1.size)
    have HPd1 := Lib.hid ((HP1.out.below HVd.out.1).mono HVd.out.1.size)
    go_region_held3 (fun w' => w'.cell? ⟨w.heap.size, 0, none⟩ = some (.int .i64 a) ∧ w'.cell? ⟨w.heap.size, 1, none⟩ = some (.int .i64 k) ∧ w'.cell? ⟨w.heap.size, 2, none⟩ = some (.int .i64 r) ∧ w'.cell? ⟨w.heap.size, 3, none⟩ = some (.string s) ∧ w'.cell? ⟨w.heap.size, 4, none⟩ = some (.slice A ps.length c) ∧ w'.cell? ⟨w.heap.size + 1, 0, none⟩ = some (.int .i64 a') ∧ w'.cell? ⟨w.heap.size + 1, 1, none⟩ = some (.int .i64 k') ∧ w'.cell? ⟨w.heap.size + 1, 2, none⟩ = some (.int .i64 r') ∧ w'.cell? ⟨w.heap.size + 1, 3, none⟩ = some (.string s') ∧ w'.cell? ⟨w.heap.size + 1, 4, none⟩ = some (.slice A' ps'.length c')) (first | with_reducible exact ⟨k0, k1, k2, k3, k4, k5, k6, k7, k8, k9⟩ | with_reducible exact HKd.out | with_reducible exact HKe.out | with_reducible exact HKf.out | with_reducible exact HKg.out | fail) (first
      | (go_at_call 13; refine (toFeature_any a' k' r' s' A' c' ps' _ HPe.out hl1).mono ?_; rintro e w9 ⟨A2, L2, c2, hL2, rfl, ho2, hb2⟩; obtain rfl : ps' = L2 := hL2.out.symm; have HVf := Lib.hid (HVe.out.next hb2); have HKf := Lib.hid HVf.out.c55; have HO2 := Lib.hid (ho2.sees elPoint); have HO1f := Lib.hid (HO1.out.belowAll hb2))
      | (go_at_call 13; refine (toFeature_any a k r s A c ps _ HPd0.out hl0).mono ?_; rintro e w9 ⟨A1, L1, c1, hL1, rfl, ho1, hb1⟩; obtain rfl : ps = L1 := hL1.out.symm; have HVe := Lib.hid (HVd.out.next hb1); have HKe := Lib.hid HVe.out.c55; have HO1 := Lib.hid (ho1.sees elPoint); have HPe := Lib.hid (HPd1.out.belowAll hb1))
      | (go_at_call 23; refine (sEqF_is a k r s A1 c1 ps a' k' r' s' A2 c2 ps' z _ HO1f.out HO2.out hl0 HZ.out).mono ?_; rintro e w9 ⟨rfl, hb3⟩; have HVg := Lib.hid (HVf.out.next hb3); have HKg := Lib.hid HVg.out.c55)
      | fail)
    all_goals
      go_wp2_with fail
      go_meet
      exact ⟨rfl, HVg⟩
  case rest =>
  obtain ⟨rfl, HV3⟩ := hcut
  clear HV2
  go_upto_region 9 with fail
  go_cut [7] (fun sx wx => Hid (∃ bx Ax cx, sx = .pointer (some ⟨bx, 0, none⟩) ∧ Vars w wx [FtC a k r s A ps.length c, FtC a' k' r' s' A' ps'.length c'] ∧ OneV (w.heap.size + 2) wx bx (FtC a k r s Ax ps.length cx) ∧ SeesE 2 encPoint wx wx.heap.size Ax ps))
  case first =>
    obtain ⟨k0, k1, k2, k3, k4, k5, k6, k7, k8, k9⟩ := HV3.out.c55
    have HPd := Lib.hid ((HP0.out.below HV3.out.1).mono HV3.out.1.size)
    go_wp2_with fail
    refine (toFeature_any a k r s A c ps _ HPd.out hl0).mono ?_
    rintro e w9 ⟨A1, L1, c1, hL1, rfl, ho1, hb1⟩
    obtain rfl : ps = L1 := hL1.out.symm
    have HVe := Lib.hid (HV3.out.next hb1)
    have HO1 := Lib.hid (ho1.sees elPoint)
    go_wp2_with fail
    go_meet
    exact Lib.hid ⟨_, _, _, rfl, HVe.out.al _, OneV.new _ HVe.out.more2 _ _, HO1.out.belowAll ((Below.refl _ _).alloc (Nat.le_refl _) _)⟩
  case rest =>
  obtain ⟨b7, A7, c7, rfl, hv, hx, ho⟩ := hcut.out
  clear hcut HV3 
  have HV3 := Lib.hid hv
  have HX7 := Lib.hid hx
  have HO7 := Lib.hid ho
  clear hv hx ho 
  go_upto_region 10 with fail
  go_cut [8] (fun sx wx => Hid (∃ bx Ax cx, sx = .pointer (some ⟨bx, 0, none⟩) ∧ Vars w wx [FtC a k r s A ps.length c, FtC a' k' r' s' A' ps'.length c'] ∧ OneV (w.heap.size + 2) wx bx (FtC a' k' r' s' Ax ps'.length cx) ∧ SeesE 2 encPoint wx wx.heap.size Ax ps' ∧ OneV (w.heap.size + 2) wx b7 (FtC a k r s A7 ps.length c7) ∧ SeesE 2 encPoint wx wx.heap.size A7 ps))
  case first =>
    obtain ⟨k0, k1, k2, k3, k4, k5, k6, k7, k8, k9⟩ := HV3.out.c55
    have HPd := Lib.hid ((HP1.out.below HV3.out.1).mono HV3.out.1.size)
    go_wp2_with fail
    refine (toFeature_any a' k' r' s' A' c' ps' _ HPd.out hl1).mono ?_
    rintro e w9 ⟨A1, L1, c1, hL1, rfl, ho1, hb1⟩
    obtain rfl : ps' = L1 := hL1.out.symm
    have HVe := Lib.hid (HV3.out.next hb1)
    have HO1 := Lib.hid (ho1.sees elPoint)
    have HX7e := Lib.hid (HX7.out.next hb1)
    have HO7e := Lib.hid (HO7.out.belowAll hb1)
    go_wp2_with fail
    go_meet
    exact Lib.hid ⟨_, _, _, rfl, HVe.out.al _, OneV.new _ HVe.out.more2 _ _, HO1.out.belowAll ((Below.refl _ _).alloc (Nat.le_refl _) _), HX7e.out.al _, HO7e.out.belowAll ((Below.refl _ _).alloc (Nat.le_refl _) _)⟩
  case rest =>
  obtain ⟨b8, A8, c8, rfl, hv, hx, ho, hHX7, hHO7⟩ := hcut.out
  clear hcut HV3 HX7 HO7
  have HV3 := Lib.hid hv
  have HX8 := Lib.hid hx
  have HO8 := Lib.hid ho
  have HX7 := Lib.hid hHX7
  have HO7 := Lib.hid hHO7
  clear hv hx ho hHX7 hHO7
  obtain ⟨i0, i1, i2, i3, i4⟩ := HX7.out.c5
  obtain ⟨j0, j1, j2, j3, j4⟩ := HX8.out.c5
  go_wp2_with fail
  refine (eqF_is a k r s A7 c7 ps a' k' r' s' A8 c8 ps' z _ HO7.out HO8.out hl0 HZ.out).mono ?_
  rintro e w9 ⟨rfl, hb9⟩
  have HV4 := Lib.hid (HV3.out.next hb9)
  have HX7e := Lib.hid (HX7.out.next hb9)
  have HX8e := Lib.hid (HX8.out.next hb9)
  have HO7e := Lib.hid (HO7.out.belowAll hb9)
  have HO8e := Lib.hid (HO8.out.belowAll hb9)
  clear hb9 HV3 HX7 HX8 HO7 HO8 i0 i1 i2 i3 i4 j0 j1 j2 j3 j4
  have hzz : (z != z) = false := by simp
  go_upto_region 14 with fail
  go_cut [39] (fun sx wx => sx = .bool false ∧ Hid (Vars w wx [FtC a k r s A ps.length c, FtC a' k' r' s' A' ps'.length c']) ∧ Hid (OneV (w.heap.size + 2) wx b8 (FtC a' k' r' s' A8 ps'.length c8)) ∧ Hid (SeesE 2 encPoint wx wx.heap.size A8 ps'))
  case first =>
    have HVd := Lib.hid HV4.out.drew
    obtain ⟨k0, k1, k2, k3, k4, k5, k6, k7, k8, k9⟩ := HV4.out.c55
    obtain ⟨i0, i1, i2, i3, i4⟩ := HX7e.out.c5
    have HKd := Lib.hid (both5 (OneV.drew HX7e.out).c5 (HVd.out.c55l))
    have HPd := Lib.hid ((HP0.out.below HVd.out.1).mono HVd.out.1.size)
    have HOd := Lib.hid ((HO7e.out.below (Below.refl _ _).drew).mono (Nat.le_refl _))
    have HX8d := Lib.hid (OneV.drew HX8e.out)
    have HO8d := Lib.hid ((HO8e.out.below (Below.refl _ _).drew).mono (Nat.le_refl _))
    go_region_held3 (fun w' => w'.cell? ⟨b7, 0, none⟩ = some (.int .i64 a) ∧ w'.cell? ⟨b7, 1, none⟩ = some (.int .i64 k) ∧ w'.cell? ⟨b7, 2, none⟩ = some (.int .i64 r) ∧ w'.cell? ⟨b7, 3, none⟩ = some (.string s) ∧ w'.cell? ⟨b7, 4, none⟩ = some (.slice A7 ps.length c7) ∧ w'.cell? ⟨w.heap.size, 0, none⟩ = some (.int .i64 a) ∧ w'.cell? ⟨w.heap.size, 1, none⟩ = some (.int .i64 k) ∧ w'.cell? ⟨w.heap.size, 2, none⟩ = some (.int .i64 r) ∧ w'.cell? ⟨w.heap.size, 3, none⟩ = some (.string s) ∧ w'.cell? ⟨w.heap.size, 4, none⟩ = some (.slice A ps.length c)) (first | with_reducible exact ⟨i0, i1, i2, i3, i4, k0, k1, k2, k3, k4⟩ | with_reducible exact HKd.out | with_reducible exact HKf.out | with_reducible exact HKg.out | fail) (first
      | (go_at_call 13; refine (toFeature_any a k r s A c ps _ HPd.out hl0).mono ?_; rintro e w9 ⟨A1, L1, c1, hL1, rfl, ho1, hb1⟩; obtain rfl : ps = L1 := hL1.out.symm; have HVf := Lib.hid (HVd.out.next hb1); have HXf := Lib.hid ((OneV.drew HX7e.out).next hb1); have HKf := Lib.hid (both5 HXf.out.c5 HVf.out.c55l); have HOf := Lib.hid (ho1.sees elPoint); have HO1f := Lib.hid (HOd.out.belowAll hb1); have HX8f := Lib.hid (HX8d.out.next hb1); have HO8f := Lib.hid (HO8d.out.belowAll hb1))
      | (go_at_call 15; refine (eqFeature_yes a k r s A7 A1 c7 c1 ps ps _ HO1f.out HOf.out rfl hl0).mono ?_; rintro e w9 ⟨rfl, hb3⟩; have HVg := Lib.hid (HVf.out.next hb3); have HXg := Lib.hid (HXf.out.next hb3); have HKg := Lib.hid (both5 HXg.out.c5 HVg.out.c55l); have HX8g := Lib.hid (HX8f.out.next hb3); have HO8g := Lib.hid (HO8f.out.belowAll hb3))
      | fail)
    all_goals
      go_wp2_with fail
      go_meet
      exact ⟨rfl, HVg, HX8g, HO8g⟩
  case rest =>
  obtain ⟨rfl, HV5, HX8h, HO8h⟩ := hcut
  clear HV4 HX7e HX8e HO7e HO8e
  go_upto_region 16 with fail
  go_cut [44] (fun sx wx => sx = .bool false ∧ Hid (Vars w wx [FtC a k r s A ps.length c, FtC a' k' r' s' A' ps'.length c']))
  case first =>
    have HVd := Lib.hid HV5.out.drew
    obtain ⟨k0, k1, k2, k3, k4, k5, k6, k7, k8, k9⟩ := HV5.out.c55
    obtain ⟨i0, i1, i2, i3, i4⟩ := HX8h.out.c5
    have HKd := Lib.hid (both5 (OneV.drew HX8h.out).c5 (HVd.out.c55r))
    have HPd := Lib.hid ((HP1.out.below HVd.out.1).mono HVd.out.1.size)
    have HOd := Lib.hid ((HO8h.out.below (Below.refl _ _).drew).mono (Nat.le_refl _))
    go_region_held3 (fun w' => w'.cell? ⟨b8, 0, none⟩ = some (.int .i64 a') ∧ w'.cell? ⟨b8, 1, none⟩ = some (.int .i64 k') ∧ w'.cell? ⟨b8, 2, none⟩ = some (.int .i64 r') ∧ w'.cell? ⟨b8, 3, none⟩ = some (.string s') ∧ w'.cell? ⟨b8, 4, none⟩ = some (.slice A8 ps'.length c8) ∧ w'.cell? ⟨w.heap.size + 1, 0, none⟩ = some (.int .i64 a') ∧ w'.cell? ⟨w.heap.size + 1, 1, none⟩ = some (.int .i64 k') ∧ w'.cell? ⟨w.heap.size + 1, 2, none⟩ = some (.int .i64 r') ∧ w'.cell? ⟨w.heap.size + 1, 3, none⟩ = some (.string s') ∧ w'.cell? ⟨w.heap.size + 1, 4, none⟩ = some (.slice A' ps'.length c')) (first | with_reducible exact ⟨i0, i1, i2, i3, i4, k5, k6, k7, k8, k9⟩ | with_reducible exact HKd.out | with_reducible exact HKf.out | with_reducible exact HKg.out | fail) (first
      | (go_at_call 13; refine (toFeature_any a' k' r' s' A' c' ps' _ HPd.out hl1).mono ?_; rintro e w9 ⟨A1, L1, c1, hL1, rfl, ho1, hb1⟩; obtain rfl : ps' = L1 := hL1.out.symm; have HVf := Lib.hid (HVd.out.next hb1); have HXf := Lib.hid ((OneV.drew HX8h.out).next hb1); have HKf := Lib.hid (both5 HXf.out.c5 HVf.out.c55r); have HOf := Lib.hid (ho1.sees elPoint); have HO1f := Lib.hid (HOd.out.belowAll hb1))
      | (go_at_call 15; refine (eqFeature_yes a' k' r' s' A8 A1 c8 c1 ps' ps' _ HO1f.out HOf.out rfl hl1).mono ?_; rintro e w9 ⟨rfl, hb3⟩; have HVg := Lib.hid (HVf.out.next hb3); have HXg := Lib.hid (HXf.out.next hb3); have HKg := Lib.hid (both5 HXg.out.c5 HVg.out.c55r))
      | fail)
    all_goals
      go_wp2_with fail
      go_meet
      exact ⟨rfl, HVg⟩
  case rest =>
  obtain ⟨rfl, HV6⟩ := hcut
  go_wp2
  go_ret
  exact ⟨rfl, HV6.out.1⟩
end Go.Proofs.Ytiibjppljpfmoaa
