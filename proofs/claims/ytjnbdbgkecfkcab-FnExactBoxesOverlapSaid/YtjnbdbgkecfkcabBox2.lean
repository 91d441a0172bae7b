/- Boxes: InBox, GrowBox, BoxOf and JoinBoxes of the model. -/
import Derived.Test.YtjnbdbgkecfkcabBox
import Derived.Deep.RegionHeld3
import Derived.Deep.DeepCutAuto
namespace Go.Proofs.Ytjnbdbgkecfkcab
open Go.ChangeShapes Go.WideShapes Go.ChangeAt Go.RowKit
set_option linter.unusedVariables false

set_option maxHeartbeats 1000000 in
theorem sInBox_is (a b c d x y : Int) (z : Bool) (w : World) (hz : inBx a b c d x y = z) :
    Calls Try.prog 10 #[SegV a b c d, PtV x y] w fun e w' => e = .returned (.bool z) ∧ Below w.heap.size w w' := by
  have HB := Lib.hid (Vars.of2 w (SegC a b c d) (PtC x y) 29 27)
  have HZ := Lib.hid hz
  clear hz
  go_enter Try.func10, Try.ntmps10
  obtain ⟨k0, k1, k2, k3, k4, k5⟩ := HB.out.c42p
  cases hu : isBx a b c d
  · go_wp2_with fail
    refine (sIsBox_is a b c d false _ hu).mono ?_
    rintro e w1 ⟨rfl, hb1⟩
    have HB1 := Lib.hid (HB.out.next hb1)
    clear hb1
    go_wp2
    go_ret
    exact ⟨ret_eq ((inBx_1 hu).symm.trans HZ.out), HB1.out.1⟩
  · go_wp2_with fail
    refine (sIsBox_is a b c d true _ hu).mono ?_
    rintro e w1 ⟨rfl, hb1⟩
    have HB1 := Lib.hid (HB.out.next hb1)
    clear hb1 k0 k1 k2 k3 k4 k5
    obtain ⟨k0, k1, k2, k3, k4, k5⟩ := HB1.out.c42p
    cases hv : inB x a c
    · go_wp2_with fail
      refine (l1in_is _ _ _ _ _ hv).mono ?_
      rintro e w2 ⟨rfl, rfl⟩
      go_wp2
      go_ret
      exact ⟨ret_eq ((inBx_2 hv).symm.trans HZ.out), HB1.out.1⟩
    · go_wp2_with fail
      refine (l1in_is _ _ _ _ _ hv).mono ?_
      rintro e w2 ⟨rfl, rfl⟩
      go_wp2_with fail
      refine (l1in_is _ _ _ z _ ((inBx_3 hu hv).symm.trans HZ.out)).mono ?_
      rintro e w3 ⟨rfl, rfl⟩
      go_wp2
      go_ret
      exact ⟨rfl, HB1.out.1⟩
set_option maxRecDepth 100000 in
set_option maxHeartbeats 1000000 in
theorem sGrowBox_is (a b c d n : Int) (r : BxR) (w : World) (hr : growV a b c d n = r) :
    Calls Try.prog 13 #[SegV a b c d, .int .i64 n] w fun e w' => e = .returned (bxV r) ∧ Below w.heap.size w w' := by
  have HB := Lib.hid (Vars.of2 w (SegC a b c d) (SegC 0 0 0 0) 29 29)
  have HR := Lib.hid hr
  clear hr
  go_enter Try.func13, Try.ntmps13
  obtain ⟨k0, k1, k2, k3, k4, k5, k6, k7⟩ := HB.out.c44
  cases hu : isBx a b c d
  · go_wp2_with fail
    refine (sIsBox_is a b c d false _ hu).mono ?_
    rintro e w1 ⟨rfl, hb1⟩
    have HB1 := Lib.hid (HB.out.next hb1)
    clear hb1 k0 k1 k2 k3 k4 k5 k6 k7
    obtain ⟨k0, k1, k2, k3, k4, k5, k6, k7⟩ := HB1.out.c44
    obtain ⟨f0, f1, f2, f3⟩ := HB1.out.fr81
    go_wp2
    refine bodyPost_ret (v := bxV ((a, b, c, d), false)) (by simp [results, Try.results13, go_sem, k4, k5, k6, k7]) rfl ?_
    exact ⟨ret_bx ((grow_1 hu).symm.trans HR.out), HB1.out.set40 (by omega) _ _ _ _⟩
  · go_wp2_with fail
    refine (sIsBox_is a b c d true _ hu).mono ?_
    rintro e w1 ⟨rfl, hb1⟩
    have HB1 := Lib.hid (HB.out.next hb1)
    clear hb1 k0 k1 k2 k3 k4 k5 k6 k7
    obtain ⟨k0, k1, k2, k3, k4, k5, k6, k7⟩ := HB1.out.c44
    obtain ⟨f0, f1, f2, f3⟩ := HB1.out.fr81
    cases hv : inB n 0 200
    · go_wp2_with fail
      refine (l1in_is _ _ _ _ _ hv).mono ?_
      rintro e w2 ⟨rfl, rfl⟩
      go_wp2
      refine bodyPost_ret (v := bxV ((a, b, c, d), false)) (by simp [results, Try.results13, go_sem, k4, k5, k6, k7]) rfl ?_
      exact ⟨ret_bx ((grow_2 hv).symm.trans HR.out), HB1.out.set40 (by omega) _ _ _ _⟩
    · have hbd := isBx_at hu
      have hnb : 0 ≤ n ∧ n ≤ 200 := by simpa [inB] using hv
      have e0 : IntKind.i64.wrap (a - n) = a - n := IntWalk.i64_in _ (by omega)
      have e1 : IntKind.i64.wrap (b - n) = b - n := IntWalk.i64_in _ (by omega)
      have e2 : IntKind.i64.wrap (c + n) = c + n := IntWalk.i64_in _ (by omega)
      have e3 : IntKind.i64.wrap (d + n) = d + n := IntWalk.i64_in _ (by omega)
      go_wp2_with fail
      refine (l1in_is _ _ _ _ _ hv).mono ?_
      rintro e w2 ⟨rfl, rfl⟩
      go_wp2_with fail
      go_region_held3 (fun w' => w'.cell? ⟨w.heap.size, 0, none⟩ = some (.int .i64 a) ∧ w'.cell? ⟨w.heap.size, 1, none⟩ = some (.int .i64 b) ∧ w'.cell? ⟨w.heap.size, 2, none⟩ = some (.int .i64 c) ∧ w'.cell? ⟨w.heap.size, 3, none⟩ = some (.int .i64 d)) (first | with_reducible exact ⟨k0, k1, k2, k3⟩ | (refine ⟨?_, ?_, ?_, ?_⟩ <;> simp [go_sem, k0, k1, k2, k3])) (first
        | (go_at_call 19; refine (smax_any _ _ _).mono ?_; rintro e w9 ⟨rfl, rfl⟩)
        | (go_at_call 20; refine (smin_any _ _ _).mono ?_; rintro e w9 ⟨rfl, rfl⟩) | fail)
      all_goals
        go_wp2
        refine bodyPost_ret (v := bxV ((extV true 0 (a - n), extV true 0 (b - n), extV false 200 (c + n), extV false 200 (d + n)), true)) (by simp [results, Try.results13, go_sem, k4, k5, k6, k7]) rfl ?_
        exact ⟨ret_bx (by rw [ext_max, ext_max, ext_min, ext_min]; exact (grow_3 hu hv).symm.trans HR.out), (HB1.out.set40 (by omega) _ _ _ _).drew⟩
set_option maxRecDepth 100000 in
set_option maxHeartbeats 2000000 in
theorem sBoxOf_is (A : Option Addr) (k : Nat) (l : List (Int × Int)) (r : BxR) (w : World) (hs : SeesE 2 encPoint w w.heap.size A l) (hl : l.length ≤ 1099511627776) (hr : boxOfV l = r) :
    Calls Try.prog 28 #[.slice A l.length k] w fun e w' => e = .returned (bxV r) ∧ Below w.heap.size w w' := by
  have HS := Lib.hid hs
  have HR := Lib.hid hr
  clear hs hr
  have HB := Lib.hid (Vars.of1 w (SegC 0 0 0 0) 29)
  obtain ⟨k0, k1, k2, k3⟩ := HB.out.c40
  obtain ⟨f0, f1, f2, f3⟩ : _ ∧ _ ∧ _ ∧ _ := ⟨HB.out.frz0 0, HB.out.frz0 1, HB.out.frz0 2, HB.out.frz0 3⟩
  go_enter Try.func28, Try.ntmps28
  by_cases h0 : l.length = 0
  · have HE : Hid (l = []) := Lib.hid (List.eq_nil_of_length_eq_zero h0)
    have h0i : (l.length : Int) = 0 := by omega
    clear h0
    go_wp2
    refine bodyPost_ret (v := bxV ((0, 0, 0, 0), false)) (by simp [results, Try.results28, go_sem, k0, k1, k2, k3]) rfl ?_
    exact ⟨ret_bx (by rw [← HR.out, HE.out]; rfl), HB.out.1⟩
  · have h0i : ¬ (l.length : Int) = 0 := by omega
    obtain ⟨⟨x, y⟩, hx⟩ : ∃ p, l[0]? = some p := ⟨_, List.getElem?_eq_getElem (by omega)⟩
    obtain ⟨b, off, rfl, hb, -⟩ := HS.out 0 _ hx
    obtain ⟨q0, q1⟩ := cellsPoint (HS.out.below HB.out.1) hx
    have hl0 : (0 : Int) < (l.length : Int) := by omega
    have HX := Lib.hid hx
    clear hx h0
    have hl0n : 0 < l.length := by omega
    have HQd := Lib.hid (And.intro q0 q1)
    have HBz := Lib.hid (Vars.of2 w (SegC 0 0 0 0) (SegC 0 0 0 0) 29 29)
    have HB2 := Lib.hid (Vars.of2 w (SegC 0 0 0 0) (SegC x y x y) 29 29)
    have HQz := Lib.hid (cellsPoint (HS.out.below HBz.out.drew.1) HX.out)
    have HQ2 := Lib.hid (cellsPoint (HS.out.below HB2.out.drew.1) HX.out)
    have HQ1 := Lib.hid (cellsPoint (HS.out.below HB.out.drew.1) HX.out)
    simp only [Nat.zero_mul, Nat.add_zero] at HQz HQ2 HQ1 q0 q1
    clear HQd
    go_upto_region 3 with fail
    go_region_held3 (fun w' => w'.cell? ⟨b, off, none⟩ = some (.int .i64 x) ∧ w'.cell? ⟨b, off + 1, none⟩ = some (.int .i64 y)) (first | with_reducible exact ⟨q0, q1⟩ | with_reducible exact HQ1.out | with_reducible exact HQz.out | with_reducible exact HQ2.out) (fail)
    all_goals
      clear k0 k1 k2 k3 f0 f1 f2 f3 q0 q1 HQz HQ2 HQ1 HB HBz
      go_wp2
      go_loopw [5] (fun i wr => ∃ (j : Nat) (t0 t1 t2 t3 : Int), j ≤ l.length ∧ i = .int .i64 (j : Int) ∧ Hid ((t0, t1, t2, t3) = (l.take j).foldl bxF (x, y, x, y)) ∧ Hid (∀ (i : Nat) (p : Int × Int), i < j → l[i]? = some p → isP p.1 p.2 = true) ∧ Hid (Vars w wr [SegC 0 0 0 0, SegC t0 t1 t2 t3])) (fun i _ => l.length - (intOf i).toNat)
      case atStart => exact ⟨0, x, y, x, y, Nat.zero_le _, rfl, Lib.hid rfl, Lib.hid (fun i p h => by omega), Lib.hid HB2.out.drew⟩
      case round =>
        obtain ⟨j, t0, t1, t2, t3, hj, rfl, HT, HP, HB⟩ := hrel
        clear HB2
        obtain ⟨k0, k1, k2, k3⟩ := HB.out.c40
        obtain ⟨j0, j1, j2, j3⟩ := HB.out.c41
        by_cases hlt : j < l.length
        · have hlt' : (j : Int) < (l.length : Int) := by omega
          obtain ⟨⟨u, v⟩, hu⟩ : ∃ p, l[j]? = some p := ⟨_, List.getElem?_eq_getElem hlt⟩
          obtain ⟨q0, q1⟩ := cellsPoint (HS.out.below HB.out.1) hu
          have HU := Lib.hid hu
          clear hu
          go_wp2_with fail
          cases hp : isP u v
          · refine (sIsPoint_is u v false _ hp).mono ?_
            rintro e w1 ⟨rfl, hb1⟩
            have HB1 := Lib.hid (HB.out.next hb1)
            clear hb1 k0 k1 k2 k3
            obtain ⟨k0, k1, k2, k3⟩ := HB1.out.c40
            obtain ⟨f0, f1, f2, f3⟩ : _ ∧ _ ∧ _ ∧ _ := ⟨HB1.out.frz0 0, HB1.out.frz0 1, HB1.out.frz0 2, HB1.out.frz0 3⟩
            go_wp2
            refine bodyPost_ret (v := bxV ((0, 0, 0, 0), false)) (by simp [results, Try.results28, go_sem, k0, k1, k2, k3]) rfl ?_
            exact ⟨ret_bx ((boxOf_no HU.out hp).symm.trans HR.out), HB1.out.set40 (Nat.le_refl _) _ _ _ _⟩
          · refine (sIsPoint_is u v true _ hp).mono ?_
            rintro e w1 ⟨rfl, hb1⟩
            have HB1 := Lib.hid (HB.out.next hb1)
            have HPP := Lib.hid hp
            clear hb1 k0 k1 k2 k3 j0 j1 j2 j3 q0 q1 hp HB
            go_upto_region 9 with fail
            obtain ⟨j0, j1, j2, j3⟩ := HB1.out.c41
            obtain ⟨f0, f1, f2, f3⟩ := HB1.out.fr81
            obtain ⟨q0, q1⟩ := cellsPoint (HS.out.below HB1.out.1) HU.out
            go_cut [] (fun wx => Hid (Vars w wx [SegC 0 0 0 0, SegC (extV false t0 u) t1 t2 t3]))
            case first =>
              go_region_with (first | (go_at_call 20; refine (smin_any _ _ _).mono ?_; rintro e w9 ⟨rfl, rfl⟩) | fail)
              all_goals
                go_wp2_with fail
                go_meet
                exact Lib.hid (HB1.out.drew.setAt (w.heap.size + 1) 1 0 rfl rfl _)
            case rest =>
            clear HB1 j0 j1 j2 j3 f0 f1 f2 f3 q0 q1
            have HB1 := hcut
            clear hcut
            go_upto_region 10 with fail
            obtain ⟨j0, j1, j2, j3⟩ := HB1.out.c41
            obtain ⟨f0, f1, f2, f3⟩ := HB1.out.fr81
            obtain ⟨q0, q1⟩ := cellsPoint (HS.out.below HB1.out.1) HU.out
            go_cut [] (fun wx => Hid (Vars w wx [SegC 0 0 0 0, SegC (extV false t0 u) (extV false t1 v) t2 t3]))
            case first =>
              go_region_with (first | (go_at_call 20; refine (smin_any _ _ _).mono ?_; rintro e w9 ⟨rfl, rfl⟩) | fail)
              all_goals
                go_wp2_with fail
                go_meet
                exact Lib.hid (HB1.out.drew.setAt (w.heap.size + 1) 1 1 rfl rfl _)
            case rest =>
            clear HB1 j0 j1 j2 j3 f0 f1 f2 f3 q0 q1
            have HB1 := hcut
            clear hcut
            go_upto_region 11 with fail
            obtain ⟨j0, j1, j2, j3⟩ := HB1.out.c41
            obtain ⟨f0, f1, f2, f3⟩ := HB1.out.fr81
            obtain ⟨q0, q1⟩ := cellsPoint (HS.out.below HB1.out.1) HU.out
            go_cut [] (fun wx => Hid (Vars w wx [SegC 0 0 0 0, SegC (extV false t0 u) (extV false t1 v) (extV true t2 u) t3]))
            case first =>
              go_region_with (first | (go_at_call 19; refine (smax_any _ _ _).mono ?_; rintro e w9 ⟨rfl, rfl⟩) | fail)
              all_goals
                go_wp2_with fail
                go_meet
                exact Lib.hid (HB1.out.drew.setAt (w.heap.size + 1) 1 2 rfl rfl _)
            case rest =>
            clear HB1 j0 j1 j2 j3 f0 f1 f2 f3 q0 q1
            have HB1 := hcut
            clear hcut
            go_upto_region 12 with fail
            obtain ⟨j0, j1, j2, j3⟩ := HB1.out.c41
            obtain ⟨f0, f1, f2, f3⟩ := HB1.out.fr81
            obtain ⟨q0, q1⟩ := cellsPoint (HS.out.below HB1.out.1) HU.out
            go_region_with (first | (go_at_call 19; refine (smax_any _ _ _).mono ?_; rintro e w9 ⟨rfl, rfl⟩) | fail)
            all_goals
              go_wp2
              go_roundw
              case rel => exact ⟨j + 1, _, _, _, _, by omega, by go_num, Lib.hid (by rw [bxF_take _ HU.out, ← HT.out]; show _ = (min t0 u, min t1 v, max t2 u, max t3 v); rw [← ext_min, ← ext_min, ← ext_max, ← ext_max]), Lib.hid (fun i p hi hpi => by
                by_cases e : i = j
                · subst e
                  obtain rfl : p = (u, v) := Option.some.inj (hpi.symm.trans HU.out)
                  exact HPP.out
                · exact HP.out i p (by omega) hpi), Lib.hid (HB1.out.drew.setAt (w.heap.size + 1) 1 3 rfl rfl _)⟩
              case measure => simp [intOf]; omega
        · have hlt' : ¬ (j : Int) < (l.length : Int) := by omega
          obtain rfl : j = l.length := by omega
          rw [List.take_length] at HT
          have HE : Hid (boxOfV l = ((t0, t1, t2, t3), true)) := Lib.hid (by rw [HT.out]; exact boxOf_yes HX.out (fun i p h => HP.out i p (List.getElem?_eq_some_iff.1 h).1 h))
          obtain ⟨f0, f1, f2, f3⟩ : _ ∧ _ ∧ _ ∧ _ := ⟨HB.out.frz0 0, HB.out.frz0 1, HB.out.frz0 2, HB.out.frz0 3⟩
          go_wp2
          refine bodyPost_ret (v := bxV ((t0, t1, t2, t3), true)) (by simp [results, Try.results28, go_sem, k0, k1, k2, k3]) rfl ?_
          exact ⟨ret_bx (HE.out.symm.trans HR.out), HB.out.set40 (Nat.le_refl _) _ _ _ _⟩
end Go.Proofs.Ytjnbdbgkecfkcab
