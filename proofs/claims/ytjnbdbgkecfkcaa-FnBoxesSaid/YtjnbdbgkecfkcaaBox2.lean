/- Boxes: InBox, GrowBox, BoxOf and JoinBoxes of the model. -/
import Derived.Test.YtjnbdbgkecfkcaaBox
import Derived.Deep.RegionHeld3
import Derived.Deep.DeepCutAuto
namespace Go.Proofs.Ytjnbdbgkecfkcaa
open Go.ChangeShapes Go.WideShapes Go.ChangeAt Go.RowKit
set_option linter.unusedVariables false

set_option maxRecDepth 100000 in
set_option maxHeartbeats 2000000 in
theorem sBoxOf_is (A : Option Addr) (k : Nat) (l : List (Int × Int)) (r : BxR) (w : World) (hs : SeesE 2 encPoint w w.heap.size A l) (hl : l.length ≤ 1099511627776) (hr : boxOfV l = r) :
    Calls Try.prog 66 #[.slice A l.length k] w fun e w' => e = .returned (bxV r) ∧ Below w.heap.size w w' := by
  have HS := Lib.hid hs
  have HR := Lib.hid hr
  clear hs hr
  have HB := Lib.hid (Vars.of1 w (SegC 0 0 0 0) 48)
  obtain ⟨k0, k1, k2, k3⟩ := HB.out.c40
  obtain ⟨f0, f1, f2, f3⟩ : _ ∧ _ ∧ _ ∧ _ := ⟨HB.out.frz0 0, HB.out.frz0 1, HB.out.frz0 2, HB.out.frz0 3⟩
  go_enter Try.func66, Try.ntmps66
  by_cases h0 : l.length = 0
  · have HE : Hid (l = []) := Lib.hid (List.eq_nil_of_length_eq_zero h0)
    have h0i : (l.length : Int) = 0 := by omega
    clear h0
    go_wp2
    refine bodyPost_ret (v := bxV ((0, 0, 0, 0), false)) (by simp [results, Try.results66, go_sem, k0, k1, k2, k3]) rfl ?_
    exact ⟨ret_bx (by rw [← HR.out, HE.out]; rfl), HB.out.1⟩
  · have h0i : ¬ (l.length : Int) = 0 := by omega
    obtain ⟨⟨x, y⟩, hx⟩ : ∃ p, l[0]? = some p := ⟨_, List.getElem?_eq_getElem (by omega)⟩
    obtain ⟨b, off, rfl, hb, -⟩ := HS.out 0 _ hx
    obtain ⟨q0, q1⟩ := cellsPoint (HS.out.below HB.out.1) hx
    have hl0 : (0 : Int) < (l.length : Int) := by omega
    have HX := Lib.hid hx
    clear hx h0
    have hl0n : 0 < l.length := by omega
    have HQd := Lib.hid (And.intro q0 q1)
    have HBz := Lib.hid (Vars.of2 w (SegC 0 0 0 0) (SegC 0 0 0 0) 48 48)
    have HB2 := Lib.hid (Vars.of2 w (SegC 0 0 0 0) (SegC x y x y) 48 48)
    have HQz := Lib.hid (cellsPoint (HS.out.below HBz.out.drew.1) HX.out)
    have HQ2 := Lib.hid (cellsPoint (HS.out.below HB2.out.drew.1) HX.out)
    have HQ1 := Lib.hid (cellsPoint (HS.out.below HB.out.drew.1) HX.out)
    simp only [Nat.zero_mul, Nat.add_zero] at HQz HQ2 HQ1 q0 q1
    clear HQd
    go_upto_region 3 with fail
    go_region_held3 (fun w' => w'.cell? ⟨b, off, none⟩ = some (.int .i64 x) ∧ w'.cell? ⟨b, off + 1, none⟩ = some (.int .i64 y)) (first | with_reducible exact ⟨q0, q1⟩ | with_reducible exact HQ1.out | with_reducible exact HQz.out | with_reducible exact HQ2.out) (fail)
    all_goals
      clear k0 k1 k2 k3 f0 f1 f2 f3 q0 q1 HQz HQ2 HQ1 HB HBz
      go_wp2
      go_loopw [5] (fun i wr => ∃ (j : Nat) (t0 t1 t2 t3 : Int), j ≤ l.length ∧ i = .int .i64 (j : Int) ∧ Hid ((t0, t1, t2, t3) = (l.take j).foldl bxF (x, y, x, y)) ∧ Hid (∀ (i : Nat) (p : Int × Int), i < j → l[i]? = some p → isP p.1 p.2 = true) ∧ Hid (Vars w wr [SegC 0 0 0 0, SegC t0 t1 t2 t3])) (fun i _ => l.length - (intOf i).toNat)
      case atStart => exact ⟨0, x, y, x, y, Nat.zero_le _, rfl, Lib.hid rfl, Lib.hid (fun i p h => by omega), Lib.hid HB2.out.drew⟩
      case round =>
        obtain ⟨j, t0, t1, t2, t3, hj, rfl, HT, HP, HB⟩ := hrel
        clear HB2
        obtain ⟨k0, k1, k2, k3⟩ := HB.out.c40
        obtain ⟨j0, j1, j2, j3⟩ := HB.out.c41
        by_cases hlt : j < l.length
        · have hlt' : (j : Int) < (l.length : Int) := by omega
          obtain ⟨⟨u, v⟩, hu⟩ : ∃ p, l[j]? = some p := ⟨_, List.getElem?_eq_getElem hlt⟩
          obtain ⟨q0, q1⟩ := cellsPoint (HS.out.below HB.out.1) hu
          have HU := Lib.hid hu
          clear hu
          go_wp2_with fail
          cases hp : isP u v
          · refine (sIsPoint_is u v false _ hp).mono ?_
            rintro e w1 ⟨rfl, hb1⟩
            have HB1 := Lib.hid (HB.out.next hb1)
            clear hb1 k0 k1 k2 k3
            obtain ⟨k0, k1, k2, k3⟩ := HB1.out.c40
            obtain ⟨f0, f1, f2, f3⟩ : _ ∧ _ ∧ _ ∧ _ := ⟨HB1.out.frz0 0, HB1.out.frz0 1, HB1.out.frz0 2, HB1.out.frz0 3⟩
            go_wp2
            refine bodyPost_ret (v := bxV ((0, 0, 0, 0), false)) (by simp [results, Try.results66, go_sem, k0, k1, k2, k3]) rfl ?_
            exact ⟨ret_bx ((boxOf_no HU.out hp).symm.trans HR.out), HB1.out.set40 (Nat.le_refl _) _ _ _ _⟩
          · refine (sIsPoint_is u v true _ hp).mono ?_
            rintro e w1 ⟨rfl, hb1⟩
            have HB1 := Lib.hid (HB.out.next hb1)
            have HPP := Lib.hid hp
            clear hb1 k0 k1 k2 k3 j0 j1 j2 j3 q0 q1 hp HB
            go_upto_region 9 with fail
            obtain ⟨j0, j1, j2, j3⟩ := HB1.out.c41
            obtain ⟨f0, f1, f2, f3⟩ := HB1.out.fr81
            obtain ⟨q0, q1⟩ := cellsPoint (HS.out.below HB1.out.1) HU.out
            go_cut [] (fun wx => Hid (Vars w wx [SegC 0 0 0 0, SegC (extV false t0 u) t1 t2 t3]))
            case first =>
              go_region_with (first | (go_at_call 78; refine (smin_any _ _ _).mono ?_; rintro e w9 ⟨rfl, rfl⟩) | fail)
              all_goals
                go_wp2_with fail
                go_meet
                exact Lib.hid (HB1.out.drew.setAt (w.heap.size + 1) 1 0 rfl rfl _)
            case rest =>
            clear HB1 j0 j1 j2 j3 f0 f1 f2 f3 q0 q1
            have HB1 := hcut
            clear hcut
            go_upto_region 10 with fail
            obtain ⟨j0, j1, j2, j3⟩ := HB1.out.c41
            obtain ⟨f0, f1, f2, f3⟩ := HB1.out.fr81
            obtain ⟨q0, q1⟩ := cellsPoint (HS.out.below HB1.out.1) HU.out
            go_cut [] (fun wx => Hid (Vars w wx [SegC 0 0 0 0, SegC (extV false t0 u) (extV false t1 v) t2 t3]))
            case first =>
              go_region_with (first | (go_at_call 78; refine (smin_any _ _ _).mono ?_; rintro e w9 ⟨rfl, rfl⟩) | fail)
              all_goals
                go_wp2_with fail
                go_meet
                exact Lib.hid (HB1.out.drew.setAt (w.heap.size + 1) 1 1 rfl rfl _)
            case rest =>
            clear HB1 j0 j1 j2 j3 f0 f1 f2 f3 q0 q1
            have HB1 := hcut
            clear hcut
            go_upto_region 11 with fail
            obtain ⟨j0, j1, j2, j3⟩ := HB1.out.c41
            obtain ⟨f0, f1, f2, f3⟩ := HB1.out.fr81
            obtain ⟨q0, q1⟩ := cellsPoint (HS.out.below HB1.out.1) HU.out
            go_cut [] (fun wx => Hid (Vars w wx [SegC 0 0 0 0, SegC (extV false t0 u) (extV false t1 v) (extV true t2 u) t3]))
            case first =>
              go_region_with (first | (go_at_call 77; refine (smax_any _ _ _).mono ?_; rintro e w9 ⟨rfl, rfl⟩) | fail)
              all_goals
                go_wp2_with fail
                go_meet
                exact Lib.hid (HB1.out.drew.setAt (w.heap.size + 1) 1 2 rfl rfl _)
            case rest =>
            clear HB1 j0 j1 j2 j3 f0 f1 f2 f3 q0 q1
            have HB1 := hcut
            clear hcut
            go_upto_region 12 with fail
            obtain ⟨j0, j1, j2, j3⟩ := HB1.out.c41
            obtain ⟨f0, f1, f2, f3⟩ := HB1.out.fr81
            obtain ⟨q0, q1⟩ := cellsPoint (HS.out.below HB1.out.1) HU.out
            go_region_with (first | (go_at_call 77; refine (smax_any _ _ _).mono ?_; rintro e w9 ⟨rfl, rfl⟩) | fail)
            all_goals
              go_wp2
              go_roundw
              case rel => exact ⟨j + 1, _, _, _, _, by omega, by go_num, Lib.hid (by rw [bxF_take _ HU.out, ← HT.out]; show _ = (min t0 u, min t1 v, max t2 u, max t3 v); rw [← ext_min, ← ext_min, ← ext_max, ← ext_max]), Lib.hid (fun i p hi hpi => by
                by_cases e : i = j
                · subst e
                  obtain rfl : p = (u, v) := Option.some.inj (hpi.symm.trans HU.out)
                  exact HPP.out
                · exact HP.out i p (by omega) hpi), Lib.hid (HB1.out.drew.setAt (w.heap.size + 1) 1 3 rfl rfl _)⟩
              case measure => simp [intOf]; omega
        · have hlt' : ¬ (j : Int) < (l.length : Int) := by omega
          obtain rfl : j = l.length := by omega
          rw [List.take_length] at HT
          have HE : Hid (boxOfV l = ((t0, t1, t2, t3), true)) := Lib.hid (by rw [HT.out]; exact boxOf_yes HX.out (fun i p h => HP.out i p (List.getElem?_eq_some_iff.1 h).1 h))
          obtain ⟨f0, f1, f2, f3⟩ : _ ∧ _ ∧ _ ∧ _ := ⟨HB.out.frz0 0, HB.out.frz0 1, HB.out.frz0 2, HB.out.frz0 3⟩
          go_wp2
          refine bodyPost_ret (v := bxV ((t0, t1, t2, t3), true)) (by simp [results, Try.results66, go_sem, k0, k1, k2, k3]) rfl ?_
          exact ⟨ret_bx (HE.out.symm.trans HR.out), HB.out.set40 (Nat.le_refl _) _ _ _ _⟩
end Go.Proofs.Ytjnbdbgkecfkcaa
