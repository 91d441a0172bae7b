/- Simpler lines: the weights of package impl. -/
import Derived.Test.YtpbmngbigdaklaaDoorSimpW
import Derived.Test.YtpbmngbigdaklaaDoorLineJ
namespace Go.Proofs.YtpbmngbigdaklaaDoor
open Go.ChangeShapes Go.WideShapes Go.ChangeAt Go.RowKit
set_option linter.unusedVariables false

theorem farSq_is (a b c d z : Int) (w : World) (h1 : isP a b = true) (h2 : isP c d = true) (hz : (a - c) * (a - c) + (b - d) * (b - d) = z) :
    Calls Tryd.prog 60 #[PtV a b, PtV c d] w fun e w' => e = .returned (.int .i64 z) ∧ Below w.heap.size w w' := by
  have := farSquared_any a b c d w
  rwa [far_yes (by simp [isP2, h1, h2]), hz] at this
theorem weightOf_is (a b c d W : Int) (w : World) (h1 : isP a b = true) (h2 : isP c d = true) (hW : wgtV a b c d = W) :
    Calls Tryd.prog 61 #[SegV a b c d] w fun e w' => e = .returned (.int .i64 W) ∧ Below w.heap.size w w' := by
  have HV := Lib.hid (Vars.of1 w (SegC a b c d) 35)
  obtain ⟨L, hL⟩ : ∃ L, lngD a b c d = L := ⟨_, rfl⟩
  have HL := Lib.hid ((lng_sq a b c d).trans hL)
  have HW : Hid (max 1 L = W) := Lib.hid (by rw [← hW, wgtV, hL]; split <;> omega)
  obtain ⟨q0, q1, q2, q3⟩ := HV.out.c40
  clear hL hW
  go_enter Tryd.func61, Tryd.ntmps61
  go_wp2_with fail
  refine (farSq_is a b c d L _ h1 h2 HL.out).mono ?_
  rintro e w1 ⟨rfl, hb1⟩
  have HV1 := Lib.hid (HV.out.next hb1); clear hb1
  go_wp2_with fail
  refine (maxB 1 L _).mono ?_
  rintro e w2 ⟨rfl, hb2⟩
  go_wp2
  go_ret
  exact ⟨ret_int HW.out, (HV1.out.next hb2).1⟩
theorem weigh_le {u W : Int} (h : 0 ≤ u ∧ u ≤ 80000) (h' : 1 ≤ W ∧ W ≤ 80000) : 0 ≤ u * W ∧ u * W ≤ 80000 * 80000 := mul_le2 h ⟨by omega, h'.2⟩
theorem wgt_bd {a b c d : Int} (hA : 0 ≤ a ∧ a ≤ 200 ∧ 0 ≤ b ∧ b ≤ 200) (hC : 0 ≤ c ∧ c ≤ 200 ∧ 0 ≤ d ∧ d ≤ 200) : 1 ≤ wgtV a b c d ∧ wgtV a b c d ≤ 80000 := by
  have h := (weigh_bd (x := a) (y := b) hA hC hA).2.2.1
  unfold wgtV; split <;> omega
set_option maxRecDepth 100000 in
set_option maxHeartbeats 4000000 in
theorem weighFar_is (a b c d x y z : Int) (w : World) (h1 : isP a b = true) (h2 : isP c d = true) (h3 : isP x y = true) (hz : weighV a b c d x y = z) :
    Calls Tryd.prog 37 #[SegV a b c d, PtV x y] w fun e w' => e = .returned (.int .i64 z) ∧ Below w.heap.size w w' := by
  have HV := Lib.hid (Vars.of2 w (SegC a b c d) #[.int .i64 x, .int .i64 y] 35 33)
  obtain ⟨b1, b2, b3, b4⟩ := weigh_bd (isP_bd h1) (isP_bd h2) (isP_bd h3)
  have bW := wgt_bd (isP_bd h1) (isP_bd h2)
  have hal := along_eq a b c d x y
  have HZ := Lib.hid hz
  clear hz
  unfold weighV at HZ
  obtain ⟨s1, hs1⟩ : ∃ s, sqD a b x y = s := ⟨_, rfl⟩
  obtain ⟨s2, hs2⟩ : ∃ s, sqD c d x y = s := ⟨_, rfl⟩
  obtain ⟨L, hL⟩ : ∃ s, lngD a b c d = s := ⟨_, rfl⟩
  obtain ⟨t, ht⟩ : ∃ s, atD a b c d x y = s := ⟨_, rfl⟩
  obtain ⟨W, hW⟩ : ∃ s, wgtV a b c d = s := ⟨_, rfl⟩
  rw [hs1] at b1 hal HZ; rw [hs2] at b2 hal HZ; rw [hL] at b3 hal HZ; rw [ht] at b4 hal HZ; rw [hW] at bW HZ
  have H1 := Lib.hid (show (a - x) * (a - x) + (b - y) * (b - y) = s1 from hs1)
  have H2 := Lib.hid (show (c - x) * (c - x) + (d - y) * (d - y) = s2 from hs2)
  have HL := Lib.hid ((lng_sq a b c d).trans hL)
  have HW := Lib.hid hW
  have htd : (s1 + L - s2).tdiv 2 = t := by rw [hal]; exact Int.mul_tdiv_cancel_left _ (by decide)
  have g1 := weigh_le b1 bW
  have g2 := weigh_le b2 bW
  have g3 := mul_le2 b1 b3
  have g4 : 0 ≤ t * t ∧ t * t ≤ 80000 * 80000 := sq_bd (by omega) (by omega)
  have HQ : Hid (∀ W', Vars w W' [SegC a b c d, #[.int .i64 x, .int .i64 y]] → (W'.cell? ⟨w.heap.size, 0, none⟩ = some (.int .i64 a) ∧ W'.cell? ⟨w.heap.size, 1, none⟩ = some (.int .i64 b) ∧ W'.cell? ⟨w.heap.size, 2, none⟩ = some (.int .i64 c) ∧ W'.cell? ⟨w.heap.size, 3, none⟩ = some (.int .i64 d)) ∧ W'.cell? ⟨w.heap.size + 1, 0, none⟩ = some (.int .i64 x) ∧ W'.cell? ⟨w.heap.size + 1, 1, none⟩ = some (.int .i64 y)) := Lib.hid fun W' h => ⟨h.c40, h.c2 (w.heap.size + 1) 1 rfl rfl⟩
  clear hs1 hs2 hL ht hW
  go_enter Tryd.func37, Tryd.ntmps37
  go_upto_region 1 with fail
  go_cut [5, 6, 7] (fun v5 v6 v7 wx => v5 = .int .i64 L ∧ v6 = .int .i64 s1 ∧ v7 = .int .i64 s2 ∧ Hid (Vars w wx [SegC a b c d, #[.int .i64 x, .int .i64 y]]))
  case first =>
    go_region_held3 (fun w' => (w'.cell? ⟨w.heap.size, 0, none⟩ = some (.int .i64 a) ∧ w'.cell? ⟨w.heap.size, 1, none⟩ = some (.int .i64 b) ∧ w'.cell? ⟨w.heap.size, 2, none⟩ = some (.int .i64 c) ∧ w'.cell? ⟨w.heap.size, 3, none⟩ = some (.int .i64 d)) ∧ w'.cell? ⟨w.heap.size + 1, 0, none⟩ = some (.int .i64 x) ∧ w'.cell? ⟨w.heap.size + 1, 1, none⟩ = some (.int .i64 y))
      (first | exact HQ.out _ HV9.out | exact HQ.out _ HV9.out.drew | exact HQ.out _ HV.out | exact HQ.out _ HV.out.drew) (first
      | (go_at_call 60; (with_reducible refine (farSq_is a b c d L _ h1 h2 HL.out).mono ?_); rintro e w9 ⟨rfl, hb9⟩; have HV9 := Lib.hid (Vars.next (by first | exact HV9.out | exact HV9.out.drew | exact HV.out | exact HV.out.drew) hb9))
      | (go_at_call 60; (with_reducible refine (farSq_is a b x y s1 _ h1 h3 H1.out).mono ?_); rintro e w9 ⟨rfl, hb9⟩; have HV9 := Lib.hid (Vars.next (by first | exact HV9.out | exact HV9.out.drew | exact HV.out | exact HV.out.drew) hb9))
      | (go_at_call 60; (with_reducible refine (farSq_is c d x y s2 _ h2 h3 H2.out).mono ?_); rintro e w9 ⟨rfl, hb9⟩; have HV9 := Lib.hid (Vars.next (by first | exact HV9.out | exact HV9.out.drew | exact HV.out | exact HV.out.drew) hb9))
      | fail)
    all_goals
      go_wp2_with fail
      go_meet
      exact ⟨rfl, rfl, rfl, HV9⟩
  case rest =>
  obtain ⟨rfl, rfl, rfl, HV⟩ := hcut
  obtain ⟨⟨q0, q1, q2, q3⟩, -⟩ := HQ.out _ HV.out
  clear HQ
  by_cases c1 : t ≤ 0
  · have HZ2 : Hid (s1 * W = z) := Lib.hid (by rw [← HZ.out, if_pos c1])
    go_wp2_with fail
    refine (weightOf_is a b c d W _ h1 h2 HW.out).mono ?_
    rintro e w2 ⟨rfl, hb2⟩
    have HV2 := Lib.hid (HV.out.next hb2); clear hb2
    go_wp2
    go_ret
    exact ⟨ret_int HZ2.out, HV2.out.1⟩
  by_cases c2 : L ≤ t
  · have HZ2 : Hid (s2 * W = z) := Lib.hid (by rw [← HZ.out, if_neg c1, if_pos c2])
    go_wp2_with fail
    refine (weightOf_is a b c d W _ h1 h2 HW.out).mono ?_
    rintro e w2 ⟨rfl, hb2⟩
    have HV2 := Lib.hid (HV.out.next hb2); clear hb2
    go_wp2
    go_ret
    exact ⟨ret_int HZ2.out, HV2.out.1⟩
  · have HZ2 : Hid (s1 * L - t * t = z) := Lib.hid (by rw [← HZ.out, if_neg c1, if_neg c2])
    go_wp2
    go_ret
    exact ⟨ret_int HZ2.out, HV.out.1⟩
theorem weighLimit_is (a b c d n z : Int) (w : World) (h1 : isP a b = true) (h2 : isP c d = true) (hn : 0 ≤ n ∧ n ≤ 200) (hz : n * n * wgtV a b c d = z) :
    Calls Tryd.prog 38 #[SegV a b c d, .int .i64 n] w fun e w' => e = .returned (.int .i64 z) ∧ Below w.heap.size w w' := by
  have HV := Lib.hid (Vars.of1 w (SegC a b c d) 35)
  have bW := wgt_bd (isP_bd h1) (isP_bd h2)
  obtain ⟨W, hW⟩ : ∃ s, wgtV a b c d = s := ⟨_, rfl⟩
  rw [hW] at bW hz
  have HW := Lib.hid hW
  have HZ := Lib.hid hz
  have g3 := mul_le2 hn hn
  have g4 := mul_le2 g3 (v := W) (b := 80000) ⟨by omega, bW.2⟩
  obtain ⟨q0, q1, q2, q3⟩ := HV.out.c40
  clear hz hW
  go_enter Tryd.func38, Tryd.ntmps38
  go_wp2_with fail
  refine (weightOf_is a b c d W _ h1 h2 HW.out).mono ?_
  rintro e w2 ⟨rfl, hb2⟩
  have HV2 := Lib.hid (HV.out.next hb2); clear hb2
  go_wp2
  go_ret
  exact ⟨ret_int HZ.out, HV2.out.1⟩
end Go.Proofs.YtpbmngbigdaklaaDoor
