/- Lines: IsLine of the model. -/
import Derived.Test.YtbnjaaegbmhopaaGreatDoorLine
import Derived.Test.YtbnjaaegbmhopaaGreatDoorHelpE
import Derived.Test.YtbnjaaegbmhopaaGreatDoorTabs
import Derived.Deep.LoopGhost
import Derived.Deep.DeepCutAuto
namespace Go.Proofs.YtbnjaaegbmhopaaGreatDoor
open Go.ChangeShapes Go.WideShapes Go.ChangeAt Go.RowKit
set_option linter.unusedVariables false

theorem cellsPoint0 {w : World} {B : Nat} {b off : Nat} {l : List (Int × Int)} {t0 t1 : Int} (h : SeesE 2 encPoint w B (some ⟨b, off, none⟩) l) (hj : l[0]? = some (t0, t1)) : w.cell? ⟨b, off, none⟩ = some (.int .i64 t0) ∧ w.cell? ⟨b, off + 1, none⟩ = some (.int .i64 t1) := by
  have := cellsPoint h hj
  rwa [Nat.zero_mul, Nat.add_zero] at this
theorem upTo_step {p : Nat → Prop} {j : Nat} (h : ∀ i, i < j → p i) (hj : p j) : ∀ i, i < j + 1 → p i := fun i hi => by
  by_cases e : i = j
  · rw [e]; exact hj
  · exact h i (by omega)
theorem isLn_bad {l : List (Int × Int)} {j : Nat} (hj : j < l.length) (h : ptOk l j = false) : isLn l = false := by
  rw [isLn_pts]
  have : decide (∀ i, i < l.length → ptOk l i = true) = false := decide_eq_false fun g => by rw [g j hj] at h; cases h
  rw [this]; rfl
theorem isLn_good {l : List (Int × Int)} (h : ∀ i, i < l.length → ptOk l i = true) : inB l.length 2 10 = isLn l := by
  rw [isLn_pts, decide_eq_true h, Bool.true_and]
section
variable {l : List (Int × Int)} {j k : Nat} {x y x' y' : Int}
theorem ptOk_p (hx : l[j]? = some (x, y)) (hq : isP x y = false) : ptOk l j = false := by simp only [ptOk, hx, hq, Bool.false_and]
theorem ptOk_0 (hx : l[0]? = some (x, y)) (hq : isP x y = true) : ptOk l 0 = true := by simp only [ptOk, hx, hq]; rfl
theorem ptOk_s (hx : l[k + 1]? = some (x, y)) (hx' : l[k]? = some (x', y')) (hq : isP x y = true) : ptOk l (k + 1) = !decide (x' = x ∧ y' = y) := by
  simp only [ptOk, hx, hq, Nat.add_sub_cancel, hx', Bool.true_and]
  have : (k + 1 == 0) = false := rfl
  rw [this, Bool.false_or]
  congr 1
  rw [Bool.eq_iff_iff, beq_iff_eq, decide_eq_true_eq, Option.some.injEq, Prod.mk.injEq]
end
def isLnT : List (Nat × Nat × Nat) := [(0, 11, 1), (0, 12, 8), (3, 13, 3072), (4, 14, 4096), (8, 15, 8192), (16, 16, 16384), (48, 17, 32768), (64, 18, 65544), (192, 19, 196608), (320, 20, 327680), (512, 21, 524289), (512, 22, 524296), (2560, 23, 2621440), (5632, 24, 5767168), (8704, 25, 8912896), (512, 26, 524289), (512, 27, 524296), (98816, 28, 101187584), (131584, 29, 134742016), (279040, 30, 285736960), (524864, 31, 537460736), (1048640, 32, 1073807360)]
def isLnS : List (Nat × Bool) := [(0, true), (1, true), (2, true), (3, true), (4, false), (5, true), (6, true), (7, true), (8, true), (9, true), (10, true), (11, true), (12, true), (13, true), (14, true), (15, true), (16, true), (17, true), (18, true), (19, true), (20, true), (21, true)]
set_option maxRecDepth 100000 in
set_option maxHeartbeats 40000000 in
theorem sIsLine_is (A : Option Addr) (c : Nat) (l : List (Int × Int)) (w : World) (hs : SeesE 2 encPoint w w.heap.size A l) (hl : l.length ≤ 1099511627776) (z : Bool) (hz : isLn l = z) :
    Calls Tryz.prog 106 #[.slice A l.length c] w fun e w' => e = .returned (.bool z) ∧ Below w.heap.size w w' := by
  have HS := Lib.hid hs; clear hs
  have HZ := Lib.hid hz; clear hz
  go_enter Tryz.func106, Tryz.ntmps106
  go_wp2
  go_loopw [3] (fun i wr => ∃ j : Nat, j ≤ l.length ∧ i = .int .i64 j ∧ Hid (∀ i, i < j → ptOk l i = true) ∧ Hid (Below w.heap.size w wr)) (fun i _ => l.length - (intOf i).toNat)
  case atStart => exact ⟨0, Nat.zero_le _, rfl, Lib.hid (fun i h => by omega), Lib.hid (Below.refl _ _)⟩
  case round =>
    obtain ⟨j, hj, rfl, hp, hb⟩ := hrel
    by_cases hlt : j < l.length
    · obtain ⟨b, off, ⟨x, y⟩, rfl, hbl, hx, -⟩ := (HS.out.below hb.out).lt hlt
      have hji : (j : Int) < (l.length : Int) := by omega
      have HB := Lib.hid hb.out.drew
      cases hq : isP x y
      · obtain rfl : z = false := HZ.out.symm.trans (isLn_bad hlt (ptOk_p hx hq))
        have HX := Lib.hid hx; clear hx
        go_upto_region 4 with fail
        refine wp_region_held_drew (S := (fun w' => w'.cell? ⟨b, off + j * 2, none⟩ = some (.int .i64 x) ∧ w'.cell? ⟨b, off + j * 2 + 1, none⟩ = some (.int .i64 y))) (by kernel_rfl) ⟨(cellsPoint (HS.out.below HB.out) HX.out).1, (cellsPoint (HS.out.below HB.out) HX.out).2⟩ (fun hHeld => ?_)
        refine to_lin (T := isLnT) (n := 22) isLnS ⟨by kernel_rfl, by kernel_rfl, by kernel_rfl⟩ (by kernel_rfl) (fun hTag => ?_)
        iterate 4 (refine lin_on (v := ?_) rfl (fun _ _ _ h => h) (by rfl) ?_ (by assumption) ?_; rotate_left; (· (intro wq hSw; go_simp; try with_reducible rfl)); try simp only [Act.put, List.setIfInBounds_toArray, List.set_cons_zero, List.set_cons_succ])
        refine lin_call rfl (by rfl) (fun K hK => ?_)
        go_simp
        go_at_call 103
        refine (sIsPoint_is _ _ _ _ hq).mono ?_
        rintro e w9 ⟨rfl, hb9⟩
        have HB := Lib.hid (HB.out.trans (hb9.mono HB.out.size))
        clear hb9
        go_wp2_with fail
        refine hK.out _ _ ?_ (fun hHeld => ?_)
        · exact ⟨(cellsPoint (HS.out.below HB.out) HX.out).1, (cellsPoint (HS.out.below HB.out) HX.out).2⟩
        clear hK K
        try simp only [Act.put, List.setIfInBounds_toArray, List.set_cons_zero, List.set_cons_succ]
        iterate 2 (refine lin_on (v := ?_) rfl (fun _ _ _ h => h) (by rfl) ?_ (by assumption) ?_; rotate_left; (· (intro wq hSw; go_simp; try with_reducible rfl)); try simp only [Act.put, List.setIfInBounds_toArray, List.set_cons_zero, List.set_cons_succ])
        iterate 14 (refine lin_off rfl (fun _ _ _ h => h) (by rfl) (by assumption) ?_; try simp only [Act.put, List.setIfInBounds_toArray, List.set_cons_zero, List.set_cons_succ])
        (refine lin_on (v := ?_) rfl (fun _ _ _ h => h) (by rfl) ?_ (by assumption) ?_; rotate_left; (· (intro wq hSw; go_simp; try with_reducible rfl)); try simp only [Act.put, List.setIfInBounds_toArray, List.set_cons_zero, List.set_cons_succ])
        refine lin_done ?_
        go_wp2
        go_ret
        exact ⟨rfl, HB.out⟩
      · cases j with
        | zero =>
          have HX := Lib.hid hx; clear hx
          go_upto_region 4 with fail
          refine wp_region_held_drew (S := (fun w' => w'.cell? ⟨b, off, none⟩ = some (.int .i64 x) ∧ w'.cell? ⟨b, off + 1, none⟩ = some (.int .i64 y))) (by kernel_rfl) (cellsPoint0 (HS.out.below HB.out) HX.out) (fun hHeld => ?_)
          refine to_lin (T := isLnT) (n := 22) isLnS ⟨by kernel_rfl, by kernel_rfl, by kernel_rfl⟩ (by kernel_rfl) (fun hTag => ?_)
          iterate 4 (refine lin_on (v := ?_) rfl (fun _ _ _ h => h) (by rfl) ?_ (by assumption) ?_; rotate_left; (· (intro wq hSw; go_simp; try with_reducible rfl)); try simp only [Act.put, List.setIfInBounds_toArray, List.set_cons_zero, List.set_cons_succ])
          refine lin_call rfl (by rfl) (fun K hK => ?_)
          go_simp
          go_at_call 103
          refine (sIsPoint_is _ _ _ _ hq).mono ?_
          rintro e w9 ⟨rfl, hb9⟩
          have HB := Lib.hid (HB.out.trans (hb9.mono HB.out.size))
          clear hb9
          go_wp2_with fail
          refine hK.out _ _ ?_ (fun hHeld => ?_)
          · exact (cellsPoint0 (HS.out.below HB.out) HX.out)
          clear hK K
          try simp only [Act.put, List.setIfInBounds_toArray, List.set_cons_zero, List.set_cons_succ]
          iterate 5 (refine lin_on (v := ?_) rfl (fun _ _ _ h => h) (by rfl) ?_ (by assumption) ?_; rotate_left; (· (intro wq hSw; go_simp; try with_reducible rfl)); try simp only [Act.put, List.setIfInBounds_toArray, List.set_cons_zero, List.set_cons_succ])
          iterate 10 (refine lin_off rfl (fun _ _ _ h => h) (by rfl) (by assumption) ?_; try simp only [Act.put, List.setIfInBounds_toArray, List.set_cons_zero, List.set_cons_succ])
          iterate 2 (refine lin_on (v := ?_) rfl (fun _ _ _ h => h) (by rfl) ?_ (by assumption) ?_; rotate_left; (· (intro wq hSw; go_simp; try with_reducible rfl)); try simp only [Act.put, List.setIfInBounds_toArray, List.set_cons_zero, List.set_cons_succ])
          refine lin_done ?_
          go_wp2
          go_roundw
          case rel => exact ⟨0 + 1, by omega, by go_num, Lib.hid (upTo_step hp.out (ptOk_0 HX.out hq)), HB⟩
          case measure => simp [intOf]; omega
        | succ k =>
          obtain ⟨⟨x', y'⟩, hx'⟩ : ∃ p, l[k]? = some p := ⟨_, List.getElem?_eq_getElem (by omega)⟩
          have HK := Lib.hid (ptOk_s hx hx' hq)
          have HX := Lib.hid hx; clear hx
          have HX' := Lib.hid hx'; clear hx'
          have e1 : ((k + 1 : Nat) : Int) = (k : Int) + 1 := by omega
          rw [e1] at hji ⊢
          have hw : IntKind.i64.wrap (k : Int) = k := IntWalk.i64_in _ (by omega)
          have hpos : (0 : Int) < (k : Int) + 1 := by omega
          have hnn : (0 : Int) ≤ (k : Int) + 1 := by omega
          have hkl : (k : Int) < (l.length : Int) := by omega
          by_cases h0 : x' = x
          · by_cases h1 : y' = y
            · obtain rfl : z = false := HZ.out.symm.trans (isLn_bad hlt (by rw [HK.out, decide_eq_true ⟨h0, h1⟩]; rfl))
              subst h0 h1
              go_upto_region 4 with fail
              refine wp_region_held_drew (S := (fun w' => w'.cell? ⟨b, off + (k + 1) * 2, none⟩ = some (.int .i64 x') ∧ w'.cell? ⟨b, off + (k + 1) * 2 + 1, none⟩ = some (.int .i64 y') ∧ w'.cell? ⟨b, off + k * 2, none⟩ = some (.int .i64 x') ∧ w'.cell? ⟨b, off + k * 2 + 1, none⟩ = some (.int .i64 y'))) (by kernel_rfl) ⟨(cellsPoint (HS.out.below HB.out) HX.out).1, (cellsPoint (HS.out.below HB.out) HX.out).2, (cellsPoint (HS.out.below HB.out) HX'.out).1, (cellsPoint (HS.out.below HB.out) HX'.out).2⟩ (fun hHeld => ?_)
              refine to_lin (T := isLnT) (n := 22) isLnS ⟨by kernel_rfl, by kernel_rfl, by kernel_rfl⟩ (by kernel_rfl) (fun hTag => ?_)
              iterate 4 (refine lin_on (v := ?_) rfl (fun _ _ _ h => h) (by rfl) ?_ (by assumption) ?_; rotate_left; (· (intro wq hSw; go_simp; try with_reducible rfl)); try simp only [Act.put, List.setIfInBounds_toArray, List.set_cons_zero, List.set_cons_succ])
              refine lin_call rfl (by rfl) (fun K hK => ?_)
              go_simp
              go_at_call 103
              refine (sIsPoint_is _ _ _ _ hq).mono ?_
              rintro e w9 ⟨rfl, hb9⟩
              have HB := Lib.hid (HB.out.trans (hb9.mono HB.out.size))
              clear hb9
              go_wp2_with fail
              refine hK.out _ _ ?_ (fun hHeld => ?_)
              · exact ⟨(cellsPoint (HS.out.below HB.out) HX.out).1, (cellsPoint (HS.out.below HB.out) HX.out).2, (cellsPoint (HS.out.below HB.out) HX'.out).1, (cellsPoint (HS.out.below HB.out) HX'.out).2⟩
              clear hK K
              try simp only [Act.put, List.setIfInBounds_toArray, List.set_cons_zero, List.set_cons_succ]
              iterate 17 (refine lin_on (v := ?_) rfl (fun _ _ _ h => h) (by rfl) ?_ (by assumption) ?_; rotate_left; (· (intro wq hSw; go_simp; try with_reducible rfl)); try simp only [Act.put, List.setIfInBounds_toArray, List.set_cons_zero, List.set_cons_succ])
              refine lin_done ?_
              go_wp2
              go_ret
              exact ⟨rfl, HB.out⟩
            · subst h0
              go_upto_region 4 with fail
              refine wp_region_held_drew (S := (fun w' => w'.cell? ⟨b, off + (k + 1) * 2, none⟩ = some (.int .i64 x') ∧ w'.cell? ⟨b, off + (k + 1) * 2 + 1, none⟩ = some (.int .i64 y) ∧ w'.cell? ⟨b, off + k * 2, none⟩ = some (.int .i64 x') ∧ w'.cell? ⟨b, off + k * 2 + 1, none⟩ = some (.int .i64 y'))) (by kernel_rfl) ⟨(cellsPoint (HS.out.below HB.out) HX.out).1, (cellsPoint (HS.out.below HB.out) HX.out).2, (cellsPoint (HS.out.below HB.out) HX'.out).1, (cellsPoint (HS.out.below HB.out) HX'.out).2⟩ (fun hHeld => ?_)
              refine to_lin (T := isLnT) (n := 22) isLnS ⟨by kernel_rfl, by kernel_rfl, by kernel_rfl⟩ (by kernel_rfl) (fun hTag => ?_)
              iterate 4 (refine lin_on (v := ?_) rfl (fun _ _ _ h => h) (by rfl) ?_ (by assumption) ?_; rotate_left; (· (intro wq hSw; go_simp; try with_reducible rfl)); try simp only [Act.put, List.setIfInBounds_toArray, List.set_cons_zero, List.set_cons_succ])
              refine lin_call rfl (by rfl) (fun K hK => ?_)
              go_simp
              go_at_call 103
              refine (sIsPoint_is _ _ _ _ hq).mono ?_
              rintro e w9 ⟨rfl, hb9⟩
              have HB := Lib.hid (HB.out.trans (hb9.mono HB.out.size))
              clear hb9
              go_wp2_with fail
              refine hK.out _ _ ?_ (fun hHeld => ?_)
              · exact ⟨(cellsPoint (HS.out.below HB.out) HX.out).1, (cellsPoint (HS.out.below HB.out) HX.out).2, (cellsPoint (HS.out.below HB.out) HX'.out).1, (cellsPoint (HS.out.below HB.out) HX'.out).2⟩
              clear hK K
              try simp only [Act.put, List.setIfInBounds_toArray, List.set_cons_zero, List.set_cons_succ]
              iterate 17 (refine lin_on (v := ?_) rfl (fun _ _ _ h => h) (by rfl) ?_ (by assumption) ?_; rotate_left; (· (intro wq hSw; go_simp; try with_reducible rfl)); try simp only [Act.put, List.setIfInBounds_toArray, List.set_cons_zero, List.set_cons_succ])
              refine lin_done ?_
              go_wp2
              go_roundw
              case rel => exact ⟨(k + 1) + 1, by omega, by go_num, Lib.hid (upTo_step hp.out (by rw [HK.out, decide_eq_false (fun g => h1 g.2)]; rfl)), HB⟩
              case measure => simp [intOf]; omega
          · go_upto_region 4 with fail
            refine wp_region_held_drew (S := (fun w' => w'.cell? ⟨b, off + (k + 1) * 2, none⟩ = some (.int .i64 x) ∧ w'.cell? ⟨b, off + (k + 1) * 2 + 1, none⟩ = some (.int .i64 y) ∧ w'.cell? ⟨b, off + k * 2, none⟩ = some (.int .i64 x') ∧ w'.cell? ⟨b, off + k * 2 + 1, none⟩ = some (.int .i64 y'))) (by kernel_rfl) ⟨(cellsPoint (HS.out.below HB.out) HX.out).1, (cellsPoint (HS.out.below HB.out) HX.out).2, (cellsPoint (HS.out.below HB.out) HX'.out).1, (cellsPoint (HS.out.below HB.out) HX'.out).2⟩ (fun hHeld => ?_)
            refine to_lin (T := isLnT) (n := 22) isLnS ⟨by kernel_rfl, by kernel_rfl, by kernel_rfl⟩ (by kernel_rfl) (fun hTag => ?_)
            iterate 4 (refine lin_on (v := ?_) rfl (fun _ _ _ h => h) (by rfl) ?_ (by assumption) ?_; rotate_left; (· (intro wq hSw; go_simp; try with_reducible rfl)); try simp only [Act.put, List.setIfInBounds_toArray, List.set_cons_zero, List.set_cons_succ])
            refine lin_call rfl (by rfl) (fun K hK => ?_)
            go_simp
            go_at_call 103
            refine (sIsPoint_is _ _ _ _ hq).mono ?_
            rintro e w9 ⟨rfl, hb9⟩
            have HB := Lib.hid (HB.out.trans (hb9.mono HB.out.size))
            clear hb9
            go_wp2_with fail
            refine hK.out _ _ ?_ (fun hHeld => ?_)
            · exact ⟨(cellsPoint (HS.out.below HB.out) HX.out).1, (cellsPoint (HS.out.below HB.out) HX.out).2, (cellsPoint (HS.out.below HB.out) HX'.out).1, (cellsPoint (HS.out.below HB.out) HX'.out).2⟩
            clear hK K
            try simp only [Act.put, List.setIfInBounds_toArray, List.set_cons_zero, List.set_cons_succ]
            iterate 17 (refine lin_on (v := ?_) rfl (fun _ _ _ h => h) (by rfl) ?_ (by assumption) ?_; rotate_left; (· (intro wq hSw; go_simp; try with_reducible rfl)); try simp only [Act.put, List.setIfInBounds_toArray, List.set_cons_zero, List.set_cons_succ])
            refine lin_done ?_
            go_wp2
            go_roundw
            case rel => exact ⟨(k + 1) + 1, by omega, by go_num, Lib.hid (upTo_step hp.out (by rw [HK.out, decide_eq_false (fun g => h0 g.1)]; rfl)), HB⟩
            case measure => simp [intOf]; omega
    · obtain rfl : j = l.length := by omega
      go_wp2_with fail
      refine (l1in_is _ _ _ _ _ ((isLn_good hp.out).trans HZ.out)).mono ?_
      rintro e w9 ⟨rfl, rfl⟩
      go_wp2
      go_ret
      exact ⟨rfl, hb.out⟩
end Go.Proofs.YtbnjaaegbmhopaaGreatDoor
