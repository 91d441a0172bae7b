/- Features: what the laws do with them: toFeature, eqFeature, and slices of them. -/
import Derived.Test.YtbnjaaegbmhopaaGreatDoorFeatM
import Derived.Test.YtbnjaaegbmhopaaGreatDoorVars
import Derived.LoopTactic
import Derived.Test.YtbnjaaegbmhopaaGreatDoorLine
import Derived.Test.YtbnjaaegbmhopaaGreatDoorHelpE
import Derived.Test.YtbnjaaegbmhopaaGreatDoorTabs
import Derived.Deep.LoopGhost
import Derived.Deep.DeepCutAuto
import Derived.Test.YtbnjaaegbmhopaaGreatDoorLineJ
import Derived.Test.YtbnjaaegbmhopaaGreatDoorSegCall
import Derived.Test.YtbnjaaegbmhopaaGreatDoorRingT
import Derived.Test.YtbnjaaegbmhopaaGreatDoorStepE
import Derived.Test.YtbnjaaegbmhopaaGreatDoorRingI
import Derived.Deep.RegionHeld3
import Derived.Shelf.Abstract
import Derived.Test.YtbnjaaegbmhopaaGreatDoorLineL
import Derived.Test.YtbnjaaegbmhopaaGreatDoorTurn
import Derived.Test.YtbnjaaegbmhopaaGreatDoorPartV
import Derived.Test.YtbnjaaegbmhopaaGreatDoorOneVar
import Derived.Test.YtbnjaaegbmhopaaGreatDoorPoint2
import Derived.Test.YtbnjaaegbmhopaaGreatDoorVars2
import Derived.Test.YtbnjaaegbmhopaaGreatDoorMatV
import Derived.Test.YtbnjaaegbmhopaaGreatDoorMeetV
import Derived.Test.YtbnjaaegbmhopaaGreatDoorRows
import Derived.Test.YtbnjaaegbmhopaaGreatDoorJoin
import Derived.Stop.LaidErr
import Derived.LaidMore
section
/- Features: IsName, IsFeature, IsSource and FindFeature of the model. -/
namespace Go.Proofs.YtbnjaaegbmhopaaGreatDoor
open Go.ChangeShapes Go.WideShapes Go.ChangeAt Go.RowKit
set_option linter.unusedVariables false

theorem name_take (s : ByteArray) (k : Nat) (h : k < s.size) : s.data.toList.take (k + 1) = s.data.toList.take k ++ [s[k]] := by
  rw [List.take_succ_eq_append_getElem (by simpa using h)]; rfl
theorem name_mem (s : ByteArray) (k : Nat) (h : k < s.size) : s[k] ∈ s.data.toList := by
  have : s[k] = s.data.toList[k]'(by simpa using h) := rfl
  rw [this]; exact List.getElem_mem _
theorem name_no {s : ByteArray} {k : Nat} (h : k < s.size) (hc : s[k].toNat < 97 ∨ 122 < s[k].toNat) : nameV s = false := by
  have : s.data.toList.all lowB = false := by
    rw [List.all_eq_false]
    refine ⟨s[k], name_mem s k h, ?_⟩
    simp only [lowB, Bool.and_eq_true, decide_eq_true_eq]
    omega
  simp [nameV, this]
theorem name_end {s : ByteArray} (h : ∀ c ∈ s.data.toList.take s.size, lowB c = true) : nameV s = inB (s.size : Int) 1 8 := by
  have hl : s.data.toList.length = s.size := Array.length_toList
  rw [← hl, List.take_length] at h
  have : s.data.toList.all lowB = true := List.all_eq_true.2 h
  simp [nameV, this]
theorem name_step {s : ByteArray} {k : Nat} (h : k < s.size) (ht : ∀ c ∈ s.data.toList.take k, lowB c = true) (h1 : 97 ≤ s[k].toNat) (h2 : s[k].toNat ≤ 122) : ∀ c ∈ s.data.toList.take (k + 1), lowB c = true := by
  rw [name_take s k h]
  intro c hc
  rw [List.mem_append, List.mem_singleton] at hc
  rcases hc with hc | rfl
  · exact ht c hc
  · simp only [lowB, Bool.and_eq_true, decide_eq_true_eq]; exact ⟨h1, h2⟩
theorem sIsName_is (s : ByteArray) (z : Bool) (w : World) (hm : s.size ≤ maxLen) (hz : nameV s = z) :
    Calls Tryz.prog 102 #[.string s] w fun e w' => e = .returned (.bool z) ∧ w = w' := by
  unfold maxLen at hm
  have HZ := Lib.hid hz
  clear hz
  go_enter Tryz.func102, Tryz.ntmps102
  go_wp2
  go_loop [3] (fun i => ∃ k : Nat, k ≤ s.size ∧ i = .int .i64 k ∧ Hid (∀ c ∈ s.data.toList.take k, lowB c = true)) (fun i => s.size - (intOf i).toNat)
  case atStart => exact ⟨0, Nat.zero_le _, rfl, Lib.hid (by simp)⟩
  case round =>
    obtain ⟨k, hk, rfl, HT⟩ := hrel
    by_cases hlt : k < s.size
    · have hu : ((s[k].toNat : Nat) : Int) ≤ 255 := by have := s[k].toNat_lt; omega
      have hlt' : (k : Int) < (s.size : Int) := by omega
      by_cases h1 : s[k].toNat < 97
      · have h1' : ((s[k].toNat : Nat) : Int) < 97 := by omega
        obtain rfl : false = z := (name_no hlt (.inl h1)).symm.trans HZ.out
        clear h1
        go_wp2
        go_ret
        exact ⟨rfl, rfl⟩
      · have h1' : ¬ ((s[k].toNat : Nat) : Int) < 97 := by omega
        by_cases h2 : 122 < s[k].toNat
        · have h2' : (122 : Int) < ((s[k].toNat : Nat) : Int) := by omega
          obtain rfl : false = z := (name_no hlt (.inr h2)).symm.trans HZ.out
          clear h1 h2
          go_wp2
          go_ret
          exact ⟨rfl, rfl⟩
        · have h2' : ¬ (122 : Int) < ((s[k].toNat : Nat) : Int) := by omega
          have HN := Lib.hid (name_step hlt HT.out (by omega) (by omega))
          clear h1 h2
          go_wp2
          go_round
          case rel => exact ⟨k + 1, by omega, by go_num, HN⟩
          case measure => simp [intOf]; omega
    · obtain rfl : k = s.size := by omega
      have hlt' : ¬ (s.size : Int) < (s.size : Int) := by omega
      have HI := Lib.hid ((name_end HT.out).symm.trans HZ.out)
      go_wp2_with fail
      refine (l1in_is _ _ _ z _ HI.out).mono ?_
      rintro e w9 ⟨rfl, rfl⟩
      go_wp2
      go_ret
      exact ⟨rfl, rfl⟩
theorem Vars.c5 {w0 w : World} {l : List (Array Value)} {v0 v1 v2 v3 v4 : Value} (h : Vars w0 w l) (b j : Nat) (hb : b = w0.heap.size + j) (hj : l[j]? = some #[v0, v1, v2, v3, v4]) : w.cell? ⟨b, 0, none⟩ = some v0 ∧ w.cell? ⟨b, 1, none⟩ = some v1 ∧ w.cell? ⟨b, 2, none⟩ = some v2 ∧ w.cell? ⟨b, 3, none⟩ = some v3 ∧ w.cell? ⟨b, 4, none⟩ = some v4 :=
  ⟨h.cell b j 0 hb hj rfl, h.cell b j 1 hb hj rfl, h.cell b j 2 hb hj rfl, h.cell b j 3 hb hj rfl, h.cell b j 4 hb hj rfl⟩
theorem Vars.c50 {w0 w : World} {l : List (Array Value)} {v0 v1 v2 v3 v4 : Value} (h : Vars w0 w (#[v0, v1, v2, v3, v4] :: l)) : w.cell? ⟨w0.heap.size, 0, none⟩ = some v0 ∧ w.cell? ⟨w0.heap.size, 1, none⟩ = some v1 ∧ w.cell? ⟨w0.heap.size, 2, none⟩ = some v2 ∧ w.cell? ⟨w0.heap.size, 3, none⟩ = some v3 ∧ w.cell? ⟨w0.heap.size, 4, none⟩ = some v4 := h.c5 _ 0 rfl rfl
end Go.Proofs.YtbnjaaegbmhopaaGreatDoor
end
section
/- Lines: IsLine of the model. -/
namespace Go.Proofs.YtbnjaaegbmhopaaGreatDoor
open Go.ChangeShapes Go.WideShapes Go.ChangeAt Go.RowKit
set_option linter.unusedVariables false

theorem cellsPoint0 {w : World} {B : Nat} {b off : Nat} {l : List (Int × Int)} {t0 t1 : Int} (h : SeesE 2 encPoint w B (some ⟨b, off, none⟩) l) (hj : l[0]? = some (t0, t1)) : w.cell? ⟨b, off, none⟩ = some (.int .i64 t0) ∧ w.cell? ⟨b, off + 1, none⟩ = some (.int .i64 t1) := by
  have := cellsPoint h hj
  rwa [Nat.zero_mul, Nat.add_zero] at this
theorem upTo_step {p : Nat → Prop} {j : Nat} (h : ∀ i, i < j → p i) (hj : p j) : ∀ i, i < j + 1 → p i := fun i hi => by
  by_cases e : i = j
  · rw [e]; exact hj
  · exact h i (by omega)
theorem isLn_bad {l : List (Int × Int)} {j : Nat} (hj : j < l.length) (h : ptOk l j = false) : isLn l = false := by
  rw [isLn_pts]
  have : decide (∀ i, i < l.length → ptOk l i = true) = false := decide_eq_false fun g => by rw [g j hj] at h; cases h
  rw [this]; rfl
theorem isLn_good {l : List (Int × Int)} (h : ∀ i, i < l.length → ptOk l i = true) : inB l.length 2 10 = isLn l := by
  rw [isLn_pts, decide_eq_true h, Bool.true_and]
section
variable {l : List (Int × Int)} {j k : Nat} {x y x' y' : Int}
theorem ptOk_p (hx : l[j]? = some (x, y)) (hq : isP x y = false) : ptOk l j = false := by simp only [ptOk, hx, hq, Bool.false_and]
theorem ptOk_0 (hx : l[0]? = some (x, y)) (hq : isP x y = true) : ptOk l 0 = true := by simp only [ptOk, hx, hq]; rfl
theorem ptOk_s (hx : l[k + 1]? = some (x, y)) (hx' : l[k]? = some (x', y')) (hq : isP x y = true) : ptOk l (k + 1) = !decide (x' = x ∧ y' = y) := by
  simp only [ptOk, hx, hq, Nat.add_sub_cancel, hx', Bool.true_and]
  have : (k + 1 == 0) = false := rfl
  rw [this, Bool.false_or]
  congr 1
  rw [Bool.eq_iff_iff, beq_iff_eq, decide_eq_true_eq, Option.some.injEq, Prod.mk.injEq]
end
def isLnT : List (Nat × Nat × Nat) := [(0, 11, 1), (0, 12, 8), (3, 13, 3072), (4, 14, 4096), (8, 15, 8192), (16, 16, 16384), (48, 17, 32768), (64, 18, 65544), (192, 19, 196608), (320, 20, 327680), (512, 21, 524289), (512, 22, 524296), (2560, 23, 2621440), (5632, 24, 5767168), (8704, 25, 8912896), (512, 26, 524289), (512, 27, 524296), (98816, 28, 101187584), (131584, 29, 134742016), (279040, 30, 285736960), (524864, 31, 537460736), (1048640, 32, 1073807360)]
def isLnS : List (Nat × Bool) := [(0, true), (1, true), (2, true), (3, true), (4, false), (5, true), (6, true), (7, true), (8, true), (9, true), (10, true), (11, true), (12, true), (13, true), (14, true), (15, true), (16, true), (17, true), (18, true), (19, true), (20, true), (21, true)]
set_option maxRecDepth 100000 in
set_option maxHeartbeats 40000000 in
theorem sIsLine_is (A : Option Addr) (c : Nat) (l : List (Int × Int)) (w : World) (hs : SeesE 2 encPoint w w.heap.size A l) (hl : l.length ≤ 1099511627776) (z : Bool) (hz : isLn l = z) :
    Calls Tryz.prog 106 #[.slice A l.length c] w fun e w' => e = .returned (.bool z) ∧ Below w.heap.size w w' := by
  have HS := Lib.hid hs; clear hs
  have HZ := Lib.hid hz; clear hz
  go_enter Tryz.func106, Tryz.ntmps106
  go_wp2
  go_loopw [3] (fun i wr => ∃ j : Nat, j ≤ l.length ∧ i = .int .i64 j ∧ Hid (∀ i, i < j → ptOk l i = true) ∧ Hid (Below w.heap.size w wr)) (fun i _ => l.length - (intOf i).toNat)
  case atStart => exact ⟨0, Nat.zero_le _, rfl, Lib.hid (fun i h => by omega), Lib.hid (Below.refl _ _)⟩
  case round =>
    obtain ⟨j, hj, rfl, hp, hb⟩ := hrel
    by_cases hlt : j < l.length
    · obtain ⟨b, off, ⟨x, y⟩, rfl, hbl, hx, -⟩ := (HS.out.below hb.out).lt hlt
      have hji : (j : Int) < (l.length : Int) := by omega
      have HB := Lib.hid hb.out.drew
      cases hq : isP x y
      · obtain rfl : z = false := HZ.out.symm.trans (isLn_bad hlt (ptOk_p hx hq))
        have HX := Lib.hid hx; clear hx
        go_upto_region 4 with fail
        refine wp_region_held_drew (S := (fun w' => w'.cell? ⟨b, off + j * 2, none⟩ = some (.int .i64 x) ∧ w'.cell? ⟨b, off + j * 2 + 1, none⟩ = some (.int .i64 y))) (by kernel_rfl) ⟨(cellsPoint (HS.out.below HB.out) HX.out).1, (cellsPoint (HS.out.below HB.out) HX.out).2⟩ (fun hHeld => ?_)
        refine to_lin (T := isLnT) (n := 22) isLnS ⟨by kernel_rfl, by kernel_rfl, by kernel_rfl⟩ (by kernel_rfl) (fun hTag => ?_)
        iterate 4 (refine lin_on (v := ?_) rfl (fun _ _ _ h => h) (by rfl) ?_ (by assumption) ?_; rotate_left; (· (intro wq hSw; go_simp; try with_reducible rfl)); try simp only [Act.put, List.setIfInBounds_toArray, List.set_cons_zero, List.set_cons_succ])
        refine lin_call rfl (by rfl) (fun K hK => ?_)
        go_simp
        go_at_call 103
        refine (sIsPoint_is _ _ _ _ hq).mono ?_
        rintro e w9 ⟨rfl, hb9⟩
        have HB := Lib.hid (HB.out.trans (hb9.mono HB.out.size))
        clear hb9
        go_wp2_with fail
        refine hK.out _ _ ?_ (fun hHeld => ?_)
        · exact ⟨(cellsPoint (HS.out.below HB.out) HX.out).1, (cellsPoint (HS.out.below HB.out) HX.out).2⟩
        clear hK K
        try simp only [Act.put, List.setIfInBounds_toArray, List.set_cons_zero, List.set_cons_succ]
        iterate 2 (refine lin_on (v := ?_) rfl (fun _ _ _ h => h) (by rfl) ?_ (by assumption) ?_; rotate_left; (· (intro wq hSw; go_simp; try with_reducible rfl)); try simp only [Act.put, List.setIfInBounds_toArray, List.set_cons_zero, List.set_cons_succ])
        iterate 14 (refine lin_off rfl (fun _ _ _ h => h) (by rfl) (by assumption) ?_; try simp only [Act.put, List.setIfInBounds_toArray, List.set_cons_zero, List.set_cons_succ])
        (refine lin_on (v := ?_) rfl (fun _ _ _ h => h) (by rfl) ?_ (by assumption) ?_; rotate_left; (· (intro wq hSw; go_simp; try with_reducible rfl)); try simp only [Act.put, List.setIfInBounds_toArray, List.set_cons_zero, List.set_cons_succ])
        refine lin_done ?_
        go_wp2
        go_ret
        exact ⟨rfl, HB.out⟩
      · cases j with
        | zero =>
          have HX := Lib.hid hx; clear hx
          go_upto_region 4 with fail
          refine wp_region_held_drew (S := (fun w' => w'.cell? ⟨b, off, none⟩ = some (.int .i64 x) ∧ w'.cell? ⟨b, off + 1, none⟩ = some (.int .i64 y))) (by kernel_rfl) (cellsPoint0 (HS.out.below HB.out) HX.out) (fun hHeld => ?_)
          refine to_lin (T := isLnT) (n := 22) isLnS ⟨by kernel_rfl, by kernel_rfl, by kernel_rfl⟩ (by kernel_rfl) (fun hTag => ?_)
          iterate 4 (refine lin_on (v := ?_) rfl (fun _ _ _ h => h) (by rfl) ?_ (by assumption) ?_; rotate_left; (· (intro wq hSw; go_simp; try with_reducible rfl)); try simp only [Act.put, List.setIfInBounds_toArray, List.set_cons_zero, List.set_cons_succ])
          refine lin_call rfl (by rfl) (fun K hK => ?_)
          go_simp
          go_at_call 103
          refine (sIsPoint_is _ _ _ _ hq).mono ?_
          rintro e w9 ⟨rfl, hb9⟩
          have HB := Lib.hid (HB.out.trans (hb9.mono HB.out.size))
          clear hb9
          go_wp2_with fail
          refine hK.out _ _ ?_ (fun hHeld => ?_)
          · exact (cellsPoint0 (HS.out.below HB.out) HX.out)
          clear hK K
          try simp only [Act.put, List.setIfInBounds_toArray, List.set_cons_zero, List.set_cons_succ]
          iterate 5 (refine lin_on (v := ?_) rfl (fun _ _ _ h => h) (by rfl) ?_ (by assumption) ?_; rotate_left; (· (intro wq hSw; go_simp; try with_reducible rfl)); try simp only [Act.put, List.setIfInBounds_toArray, List.set_cons_zero, List.set_cons_succ])
          iterate 10 (refine lin_off rfl (fun _ _ _ h => h) (by rfl) (by assumption) ?_; try simp only [Act.put, List.setIfInBounds_toArray, List.set_cons_zero, List.set_cons_succ])
          iterate 2 (refine lin_on (v := ?_) rfl (fun _ _ _ h => h) (by rfl) ?_ (by assumption) ?_; rotate_left; (· (intro wq hSw; go_simp; try with_reducible rfl)); try simp only [Act.put, List.setIfInBounds_toArray, List.set_cons_zero, List.set_cons_succ])
          refine lin_done ?_
          go_wp2
          go_roundw
          case rel => exact ⟨0 + 1, by omega, by go_num, Lib.hid (upTo_step hp.out (ptOk_0 HX.out hq)), HB⟩
          case measure => simp [intOf]; omega
        | succ k =>
          obtain ⟨⟨x', y'⟩, hx'⟩ : ∃ p, l[k]? = some p := ⟨_, List.getElem?_eq_getElem (by omega)⟩
          have HK := Lib.hid (ptOk_s hx hx' hq)
          have HX := Lib.hid hx; clear hx
          have HX' := Lib.hid hx'; clear hx'
          have e1 : ((k + 1 : Nat) : Int) = (k : Int) + 1 := by omega
          rw [e1] at hji ⊢
          have hw : IntKind.i64.wrap (k : Int) = k := IntWalk.i64_in _ (by omega)
          have hpos : (0 : Int) < (k : Int) + 1 := by omega
          have hnn : (0 : Int) ≤ (k : Int) + 1 := by omega
          have hkl : (k : Int) < (l.length : Int) := by omega
          by_cases h0 : x' = x
          · by_cases h1 : y' = y
            · obtain rfl : z = false := HZ.out.symm.trans (isLn_bad hlt (by rw [HK.out, decide_eq_true ⟨h0, h1⟩]; rfl))
              subst h0 h1
              go_upto_region 4 with fail
              refine wp_region_held_drew (S := (fun w' => w'.cell? ⟨b, off + (k + 1) * 2, none⟩ = some (.int .i64 x') ∧ w'.cell? ⟨b, off + (k + 1) * 2 + 1, none⟩ = some (.int .i64 y') ∧ w'.cell? ⟨b, off + k * 2, none⟩ = some (.int .i64 x') ∧ w'.cell? ⟨b, off + k * 2 + 1, none⟩ = some (.int .i64 y'))) (by kernel_rfl) ⟨(cellsPoint (HS.out.below HB.out) HX.out).1, (cellsPoint (HS.out.below HB.out) HX.out).2, (cellsPoint (HS.out.below HB.out) HX'.out).1, (cellsPoint (HS.out.below HB.out) HX'.out).2⟩ (fun hHeld => ?_)
              refine to_lin (T := isLnT) (n := 22) isLnS ⟨by kernel_rfl, by kernel_rfl, by kernel_rfl⟩ (by kernel_rfl) (fun hTag => ?_)
              iterate 4 (refine lin_on (v := ?_) rfl (fun _ _ _ h => h) (by rfl) ?_ (by assumption) ?_; rotate_left; (· (intro wq hSw; go_simp; try with_reducible rfl)); try simp only [Act.put, List.setIfInBounds_toArray, List.set_cons_zero, List.set_cons_succ])
              refine lin_call rfl (by rfl) (fun K hK => ?_)
              go_simp
              go_at_call 103
              refine (sIsPoint_is _ _ _ _ hq).mono ?_
              rintro e w9 ⟨rfl, hb9⟩
              have HB := Lib.hid (HB.out.trans (hb9.mono HB.out.size))
              clear hb9
              go_wp2_with fail
              refine hK.out _ _ ?_ (fun hHeld => ?_)
              · exact ⟨(cellsPoint (HS.out.below HB.out) HX.out).1, (cellsPoint (HS.out.below HB.out) HX.out).2, (cellsPoint (HS.out.below HB.out) HX'.out).1, (cellsPoint (HS.out.below HB.out) HX'.out).2⟩
              clear hK K
              try simp only [Act.put, List.setIfInBounds_toArray, List.set_cons_zero, List.set_cons_succ]
              iterate 17 (refine lin_on (v := ?_) rfl (fun _ _ _ h => h) (by rfl) ?_ (by assumption) ?_; rotate_left; (· (intro wq hSw; go_simp; try with_reducible rfl)); try simp only [Act.put, List.setIfInBounds_toArray, List.set_cons_zero, List.set_cons_succ])
              refine lin_done ?_
              go_wp2
              go_ret
              exact ⟨rfl, HB.out⟩
            · subst h0
              go_upto_region 4 with fail
              refine wp_region_held_drew (S := (fun w' => w'.cell? ⟨b, off + (k + 1) * 2, none⟩ = some (.int .i64 x') ∧ w'.cell? ⟨b, off + (k + 1) * 2 + 1, none⟩ = some (.int .i64 y) ∧ w'.cell? ⟨b, off + k * 2, none⟩ = some (.int .i64 x') ∧ w'.cell? ⟨b, off + k * 2 + 1, none⟩ = some (.int .i64 y'))) (by kernel_rfl) ⟨(cellsPoint (HS.out.below HB.out) HX.out).1, (cellsPoint (HS.out.below HB.out) HX.out).2, (cellsPoint (HS.out.below HB.out) HX'.out).1, (cellsPoint (HS.out.below HB.out) HX'.out).2⟩ (fun hHeld => ?_)
              refine to_lin (T := isLnT) (n := 22) isLnS ⟨by kernel_rfl, by kernel_rfl, by kernel_rfl⟩ (by kernel_rfl) (fun hTag => ?_)
              iterate 4 (refine lin_on (v := ?_) rfl (fun _ _ _ h => h) (by rfl) ?_ (by assumption) ?_; rotate_left; (· (intro wq hSw; go_simp; try with_reducible rfl)); try simp only [Act.put, List.setIfInBounds_toArray, List.set_cons_zero, List.set_cons_succ])
              refine lin_call rfl (by rfl) (fun K hK => ?_)
              go_simp
              go_at_call 103
              refine (sIsPoint_is _ _ _ _ hq).mono ?_
              rintro e w9 ⟨rfl, hb9⟩
              have HB := Lib.hid (HB.out.trans (hb9.mono HB.out.size))
              clear hb9
              go_wp2_with fail
              refine hK.out _ _ ?_ (fun hHeld => ?_)
              · exact ⟨(cellsPoint (HS.out.below HB.out) HX.out).1, (cellsPoint (HS.out.below HB.out) HX.out).2, (cellsPoint (HS.out.below HB.out) HX'.out).1, (cellsPoint (HS.out.below HB.out) HX'.out).2⟩
              clear hK K
              try simp only [Act.put, List.setIfInBounds_toArray, List.set_cons_zero, List.set_cons_succ]
              iterate 17 (refine lin_on (v := ?_) rfl (fun _ _ _ h => h) (by rfl) ?_ (by assumption) ?_; rotate_left; (· (intro wq hSw; go_simp; try with_reducible rfl)); try simp only [Act.put, List.setIfInBounds_toArray, List.set_cons_zero, List.set_cons_succ])
              refine lin_done ?_
              go_wp2
              go_roundw
              case rel => exact ⟨(k + 1) + 1, by omega, by go_num, Lib.hid (upTo_step hp.out (by rw [HK.out, decide_eq_false (fun g => h1 g.2)]; rfl)), HB⟩
              case measure => simp [intOf]; omega
          · go_upto_region 4 with fail
            refine wp_region_held_drew (S := (fun w' => w'.cell? ⟨b, off + (k + 1) * 2, none⟩ = some (.int .i64 x) ∧ w'.cell? ⟨b, off + (k + 1) * 2 + 1, none⟩ = some (.int .i64 y) ∧ w'.cell? ⟨b, off + k * 2, none⟩ = some (.int .i64 x') ∧ w'.cell? ⟨b, off + k * 2 + 1, none⟩ = some (.int .i64 y'))) (by kernel_rfl) ⟨(cellsPoint (HS.out.below HB.out) HX.out).1, (cellsPoint (HS.out.below HB.out) HX.out).2, (cellsPoint (HS.out.below HB.out) HX'.out).1, (cellsPoint (HS.out.below HB.out) HX'.out).2⟩ (fun hHeld => ?_)
            refine to_lin (T := isLnT) (n := 22) isLnS ⟨by kernel_rfl, by kernel_rfl, by kernel_rfl⟩ (by kernel_rfl) (fun hTag => ?_)
            iterate 4 (refine lin_on (v := ?_) rfl (fun _ _ _ h => h) (by rfl) ?_ (by assumption) ?_; rotate_left; (· (intro wq hSw; go_simp; try with_reducible rfl)); try simp only [Act.put, List.setIfInBounds_toArray, List.set_cons_zero, List.set_cons_succ])
            refine lin_call rfl (by rfl) (fun K hK => ?_)
            go_simp
            go_at_call 103
            refine (sIsPoint_is _ _ _ _ hq).mono ?_
            rintro e w9 ⟨rfl, hb9⟩
            have HB := Lib.hid (HB.out.trans (hb9.mono HB.out.size))
            clear hb9
            go_wp2_with fail
            refine hK.out _ _ ?_ (fun hHeld => ?_)
            · exact ⟨(cellsPoint (HS.out.below HB.out) HX.out).1, (cellsPoint (HS.out.below HB.out) HX.out).2, (cellsPoint (HS.out.below HB.out) HX'.out).1, (cellsPoint (HS.out.below HB.out) HX'.out).2⟩
            clear hK K
            try simp only [Act.put, List.setIfInBounds_toArray, List.set_cons_zero, List.set_cons_succ]
            iterate 17 (refine lin_on (v := ?_) rfl (fun _ _ _ h => h) (by rfl) ?_ (by assumption) ?_; rotate_left; (· (intro wq hSw; go_simp; try with_reducible rfl)); try simp only [Act.put, List.setIfInBounds_toArray, List.set_cons_zero, List.set_cons_succ])
            refine lin_done ?_
            go_wp2
            go_roundw
            case rel => exact ⟨(k + 1) + 1, by omega, by go_num, Lib.hid (upTo_step hp.out (by rw [HK.out, decide_eq_false (fun g => h0 g.1)]; rfl)), HB⟩
            case measure => simp [intOf]; omega
    · obtain rfl : j = l.length := by omega
      go_wp2_with fail
      refine (l1in_is _ _ _ _ _ ((isLn_good hp.out).trans HZ.out)).mono ?_
      rintro e w9 ⟨rfl, rfl⟩
      go_wp2
      go_ret
      exact ⟨rfl, hb.out⟩
end Go.Proofs.YtbnjaaegbmhopaaGreatDoor
end
section
/- Lines: SegmentsOf and LineSteps of the model. -/
namespace Go.Proofs.YtbnjaaegbmhopaaGreatDoor
open Go.ChangeShapes Go.WideShapes Go.ChangeAt Go.RowKit
set_option linter.unusedVariables false

theorem keepA {w : World} {p : Addr} {v : Value} (h : w.cell? p = some v) (o : Obj) : (w.alloc o).cell? p = some v :=
  (World.cell?_of_block (Below.heap_alloc _ _ _ (World.block_lt_of_cell? w p h))).trans h
theorem sizeA (w : World) (o : Obj) : w.heap.size ≤ (w.alloc o).heap.size := by simp
/-- append of one segment, as one step of a region that draws its order. -/
theorem stepSegment (w : World) {ops : Array Oper} {o : Oper} {a : Act} {K : Act → World → Prop} {Q : Exit → Act → World → Prop} {E : Prop} (hgd : o.guard = none) (s x : Operand)
    (ho : o.op = .call { callee := .builtin .append, args := #[s, x], argTypes := #[38, 38] })
    (base : Nat) (v : Value) (l : List (Int × Int × Int × Int)) (hv : a.eval s = v) (hown : OwnE 4 encSegment w base 78 v l)
    (B : Nat) (A : Option Addr) (m c : Nat) (l2 : List (Int × Int × Int × Int)) (hx : a.eval x = .slice A m c) (hm : m = l2.length) (hs : SeesE 4 encSegment w B A l2) (h63 : l.length + l2.length ≤ 1099511627776) (hbase : base ≤ w.heap.size)
    (h : ∀ A' c' L w', Hid (L = l ++ l2) → L.length ≤ l.length + l2.length → l.length + l2.length ≤ L.length → OwnE 4 encSegment w' base 78 (.slice A' L.length c') L → Below base w w' → K (a.put o.dst (.slice A' L.length c')) w') :
    if Region.wanted o (yielded ops a.tmps) = true then Oper.wp Tryz.prog o a w K Q else E := by
  have hw : Region.wanted o (yielded ops a.tmps) = true := by simp [Region.wanted, hgd]
  rw [if_pos hw]
  obtain ⟨i, hi, hz, h1, h2⟩ := info_parts infoSegment
  exact wp_appE w elSegment s x _ ho _ i _ 32 Tryz.underlying38 hi hz h1 h2 rfl base v l hv hown B A m c l2 hx hm hs h63 (by decide) hbase h
def SoRel (l : List (Int × Int)) (w : World) (v i : Value) (wr : World) : Prop :=
  ∃ (A : Option Addr) (c : Nat) (L : List (Int × Int × Int × Int)) (j : Nat), v = .slice A L.length c ∧ i = .int .i64 ((j : Int) + 1) ∧ (isLn l = false → j = 0) ∧ (j = 0 ∨ j ≤ (jts l).length) ∧ Hid (L = (sgV l).take j) ∧ L.length = j ∧ OwnE 4 encSegment wr w.heap.size 78 (.slice A L.length c) L ∧ Below w.heap.size w wr
theorem so_step {S L L2 : List (Int × Int × Int × Int)} {j : Nat} {x : Int × Int × Int × Int} (hL : L = S.take j) (h : L2 = L ++ [x]) (hx : S[j]? = some x) : L2 = S.take (j + 1) := by
  rw [h, hL, List.take_add_one, hx]; rfl
set_option maxRecDepth 100000 in
set_option maxHeartbeats 4000000 in
theorem sSegmentsOf_any (A : Option Addr) (c : Nat) (l : List (Int × Int)) (w : World) (hs : SeesE 2 encPoint w w.heap.size A l) (hl : l.length ≤ 1099511627776) :
    Calls Tryz.prog 63 #[.slice A l.length c] w (GivesE 4 encSegment 78 (sgV l) w) := by
  have HS := Lib.hid hs; clear hs
  go_enter Tryz.func63, Tryz.ntmps63
  go_wp2
  go_loopw [3, 4] (fun v i wr => SoRel l w v i wr) (fun _ i _ => l.length - (intOf i).toNat)
  case atStart => exact ⟨_, _, [], 0, rfl, by go_num, fun _ => rfl, .inl rfl, Lib.hid (by simp), rfl, OwnE.lit w _ _ (Nat.le_refl _), (Below.refl _ _).alloc (Nat.le_refl _) _⟩
  case round =>
    obtain ⟨A1, c1, L, j, rfl, rfl, hi0, hj, hL, hn, ho, hb⟩ := hrel
    have HB := Lib.hid hb; clear hb
    have HO := Lib.hid ho; clear ho
    have hsz := HB.out.size
    have hjl := jts_len l
    have HN := Lib.hid hn; clear hn
    by_cases hlt : j + 1 < l.length
    · have hji : (j : Int) + 1 < (l.length : Int) := by omega
      cases hi : isLn l
      · obtain rfl := hi0 hi
        go_wp2_with (go_at_call 106; refine (sIsLine_is A c l _ ((HS.out.below HB.out).mono HB.out.size) hl _ hi).mono ?_; rintro e w9 ⟨rfl, hb9⟩)
        go_ret
        refine ⟨A1, c1, L, Lib.hid ?_, rfl, HO.out.belowAll hb9, HB.out.trans (hb9.mono HB.out.size)⟩
        rw [hL.out, sgV_no hi]; rfl
      · obtain ⟨x0, x1, y0, y1, hx, hy, hjx⟩ := jts_at hlt
        have hxl : (jts l)[j]? = (sgV l)[j]? := by rw [sgV_yes hi]
        rw [hxl] at hjx
        have HX := Lib.hid hx; have HY := Lib.hid hy; have HJ := Lib.hid hjx
        obtain ⟨b, off, rfl, hbl, -⟩ := HS.out j _ hx
        clear hx hy hjx hxl
        have hw : IntKind.i64.wrap (j : Int) = j := IntWalk.i64_in _ (by omega)
        have hnn : (0 : Int) ≤ (j : Int) + 1 := by omega
        have hkl : (j : Int) < (l.length : Int) := by omega
        have hone : L.length + [(x0, x1, y0, y1)].length ≤ 1099511627776 := by have := HN.out; simp; omega
        go_wp2_with (go_at_call 106; refine (sIsLine_is _ c l _ ((HS.out.below HB.out).mono HB.out.size) hl _ hi).mono ?_; rintro e w9 ⟨rfl, hb9⟩; have HB9 := Lib.hid (HB.out.trans (hb9.mono HB.out.size)); have HO9 := Lib.hid (HO.out.belowAll hb9).drew; obtain ⟨k0, k1⟩ := cellsPoint (HS.out.below HB9.out) HX.out; obtain ⟨k2, k3⟩ := cellsPoint (HS.out.below HB9.out) HY.out)
        have hz9 : w.heap.size ≤ w9.drew.heap.size := HB9.out.size
        go_region_held3 (fun w' => w'.cell? ⟨b, off + j * 2, none⟩ = some (.int .i64 x0) ∧ w'.cell? ⟨b, off + j * 2 + 1, none⟩ = some (.int .i64 x1) ∧ w'.cell? ⟨b, off + (j + 1) * 2, none⟩ = some (.int .i64 y0) ∧ w'.cell? ⟨b, off + (j + 1) * 2 + 1, none⟩ = some (.int .i64 y1)) (first | exact ⟨k0, k1, k2, k3⟩ | exact ⟨keepA k0 _, keepA k1 _, keepA k2 _, keepA k3 _⟩ | exact hc4) (first
          | (refine stepSegment _ rfl _ _ rfl w.heap.size _ L rfl (HO9.out.alloc _) (w9.drew.heap.size + 1) _ 1 _ [(x0, x1, y0, y1)] rfl rfl (seesE_new elSegment w9.drew (x0, x1, y0, y1) _ _ _ (Nat.lt_succ_self _) rfl) hone (Nat.le_trans hz9 (sizeA _ _)) ?_; intro A4 c4 L4 w4 hL4 h1 h2 ho4 hb4; have hc4 := And.intro ((hb4.cell (p := ⟨b, off + j * 2, none⟩) hbl).trans (keepA k0 _)) (And.intro ((hb4.cell (p := ⟨b, off + j * 2 + 1, none⟩) hbl).trans (keepA k1 _)) (And.intro ((hb4.cell (p := ⟨b, off + (j + 1) * 2, none⟩) hbl).trans (keepA k2 _)) ((hb4.cell (p := ⟨b, off + (j + 1) * 2 + 1, none⟩) hbl).trans (keepA k3 _))))) | fail)
        go_wp2
        go_roundw
        case rel => exact ⟨A4, c4, L4, j + 1, rfl, by go_num, fun h => (by rw [hi] at h; cases h), .inr (by omega), Lib.hid (so_step hL.out hL4.out HJ.out), by have := HN.out; simp at h1 h2; omega, ho4, HB9.out.drew.trans (((Below.refl _ _).alloc hz9 _).trans hb4)⟩
        case measure => simp [intOf]; omega
    · have hji : ¬ ((j : Int) + 1 < (l.length : Int)) := by omega
      go_wp2
      go_ret
      refine ⟨A1, c1, L, Lib.hid ?_, rfl, HO.out, HB.out⟩
      rw [hL.out]
      cases hi : isLn l
      · rw [sgV_no hi, List.take_nil]
      · have := isLn_yes hi
        rw [sgV_yes hi]; exact List.take_of_length_le (by omega)
theorem stpV_step {L : List (Int × Int × Int × Int)} {j : Nat} {x : Int × Int × Int × Int} (hx : L[j]? = some x) : stpV (L.take j) + stS x = stpV (L.take (j + 1)) := by
  rw [List.take_add_one, hx]; exact (stpV_snoc _ _).symm
end Go.Proofs.YtbnjaaegbmhopaaGreatDoor
end
section
/- Lines: IsSimple and LinesMeet of the model. -/
namespace Go.Proofs.YtbnjaaegbmhopaaGreatDoor
open Go.ChangeShapes Go.WideShapes Go.ChangeAt Go.RowKit
set_option linter.unusedVariables false

set_option maxRecDepth 100000 in
set_option maxHeartbeats 8000000 in
theorem sIsSimple_is (A : Option Addr) (c : Nat) (l : List (Int × Int)) (w : World) (hs : SeesE 2 encPoint w w.heap.size A l) (hl : l.length ≤ 1099511627776) (z : Bool) (hz : smpV l = z) :
    Calls Tryz.prog 104 #[.slice A l.length c] w fun e w' => e = .returned (.bool z) ∧ Below w.heap.size w w' := by
  have HS := Lib.hid hs; clear hs
  go_enter Tryz.func104, Tryz.ntmps104
  go_wp2_with (go_at_call 63; refine (sSegmentsOf_any A c l _ HS.out hl).mono ?_; rintro e w1 ⟨A1, c1, L, hL, rfl, ho1, hb1⟩)
  have HO1 := Lib.hid ho1; have HB1 := Lib.hid hb1
  have h9 : L.length ≤ 9 := by rw [hL.out]; exact sgV_len l
  have HL := hL
  have HZ := Lib.hid hz
  clear ho1 hb1 hL hz
  go_loopw [4] (fun i wr => ∃ j : Nat, j ≤ L.length ∧ i = .int .i64 j ∧ Hid (∀ k, k < j → ∀ i, i < k → mtOk (sgV l) i k = true) ∧ Hid (OwnE 4 encSegment wr w.heap.size 78 (.slice A1 L.length c1) L) ∧ Hid (Below w.heap.size w wr)) (fun i _ => L.length - (intOf i).toNat)
  case atStart => exact ⟨0, Nat.zero_le _, rfl, Lib.hid (fun k hk => by omega), HO1, HB1⟩
  case round =>
    obtain ⟨i, hi, rfl, hp, HO, HB⟩ := hrel
    clear HO1 HB1
    by_cases hlt : i < L.length
    · have hli : (i : Int) < (L.length : Int) := by omega
      go_wp2
      go_loopw [5] (fun k wx => ∃ j : Nat, j ≤ i ∧ k = .int .i64 j ∧ Hid (∀ q, q < j → mtOk (sgV l) q i = true) ∧ Hid (OwnE 4 encSegment wx w.heap.size 78 (.slice A1 L.length c1) L) ∧ Hid (Below w.heap.size w wx)) (fun k _ => i - (intOf k).toNat)
      case atStart => exact ⟨0, Nat.zero_le _, rfl, Lib.hid (fun k hk => by omega), HO, HB⟩
      case round =>
        obtain ⟨j, hj, rfl, hq, HO, HB⟩ := hrel
        by_cases hlj : j < i
        · have hlj' : (j : Int) < (L.length : Int) := by omega
          obtain ⟨b, off, v, rfl, hbl, hv, -⟩ := (HO.out.sees elSegment).lt hlt
          obtain ⟨u, hu⟩ : ∃ u, L[j]? = some u := ⟨_, List.getElem?_eq_getElem (by omega)⟩
          obtain ⟨k0, k1, k2, k3⟩ := cells4 (HO.out.sees elSegment) hu
          obtain ⟨k4, k5, k6, k7⟩ := cells4 (HO.out.sees elSegment) hv
          have HU := Lib.hid hu; have HV := Lib.hid hv
          have HU' : Hid ((sgV l)[j]? = some u) := Lib.hid (by rw [← HL.out]; exact hu)
          have HV' : Hid ((sgV l)[i]? = some v) := Lib.hid (by rw [← HL.out]; exact hv)
          clear hu hv
          obtain ⟨m, hm⟩ : ∃ m, howS v u = m := ⟨_, rfl⟩
          have HM : Hid (howS u v = m) := Lib.hid (by rw [← hm]; exact howS_comm v u)
          by_cases he : j + 1 = i
          · have he' : (j : Int) + 1 = (i : Int) := by omega
            have HWn : Hid (wantS j i = 1) := Lib.hid (if_pos he)
            by_cases h1 : m = 1
            · subst h1
              go_wp2
              go_region_held3 (fun w' => (w'.cell? ⟨b, off + j * 4, none⟩ = some (.int .i64 u.1) ∧ w'.cell? ⟨b, off + j * 4 + 1, none⟩ = some (.int .i64 u.2.1) ∧ w'.cell? ⟨b, off + j * 4 + 2, none⟩ = some (.int .i64 u.2.2.1) ∧ w'.cell? ⟨b, off + j * 4 + 3, none⟩ = some (.int .i64 u.2.2.2)) ∧ (w'.cell? ⟨b, off + i * 4, none⟩ = some (.int .i64 v.1) ∧ w'.cell? ⟨b, off + i * 4 + 1, none⟩ = some (.int .i64 v.2.1) ∧ w'.cell? ⟨b, off + i * 4 + 2, none⟩ = some (.int .i64 v.2.2.1) ∧ w'.cell? ⟨b, off + i * 4 + 3, none⟩ = some (.int .i64 v.2.2.2))) (first | exact ⟨⟨k0, k1, k2, k3⟩, ⟨k4, k5, k6, k7⟩⟩ | exact hQ) (first
                | (go_at_call 113; refine (sHowS_is v u _ _ hm).mono ?_; rintro e w9 ⟨rfl, hb9⟩; have HB9 := Lib.hid (HB.out.drew.trans (hb9.mono HB.out.size)); have HO9 := Lib.hid ((HO.out.drew).belowAll hb9); have hQ := And.intro (cells4 (HO9.out.sees elSegment) HU.out) (cells4 (HO9.out.sees elSegment) HV.out)) | fail)
              all_goals
                go_wp2
                go_roundw
                case rel => exact ⟨j + 1, by omega, by go_num, Lib.hid (upto_step hq.out (smp_ok HU'.out HV'.out (HM.out.trans HWn.out.symm))), HO9, HB9⟩
                case measure => simp [intOf]; omega
            · obtain rfl : z = false := HZ.out.symm.trans (smp_no HU'.out HV'.out hlj (by rw [HM.out, HWn.out]; exact h1))
              go_wp2
              go_region_held3 (fun w' => (w'.cell? ⟨b, off + j * 4, none⟩ = some (.int .i64 u.1) ∧ w'.cell? ⟨b, off + j * 4 + 1, none⟩ = some (.int .i64 u.2.1) ∧ w'.cell? ⟨b, off + j * 4 + 2, none⟩ = some (.int .i64 u.2.2.1) ∧ w'.cell? ⟨b, off + j * 4 + 3, none⟩ = some (.int .i64 u.2.2.2)) ∧ (w'.cell? ⟨b, off + i * 4, none⟩ = some (.int .i64 v.1) ∧ w'.cell? ⟨b, off + i * 4 + 1, none⟩ = some (.int .i64 v.2.1) ∧ w'.cell? ⟨b, off + i * 4 + 2, none⟩ = some (.int .i64 v.2.2.1) ∧ w'.cell? ⟨b, off + i * 4 + 3, none⟩ = some (.int .i64 v.2.2.2))) (first | exact ⟨⟨k0, k1, k2, k3⟩, ⟨k4, k5, k6, k7⟩⟩ | exact hQ) (first
                | (go_at_call 113; refine (sHowS_is v u _ _ hm).mono ?_; rintro e w9 ⟨rfl, hb9⟩; have HB9 := Lib.hid (HB.out.drew.trans (hb9.mono HB.out.size)); have HO9 := Lib.hid ((HO.out.drew).belowAll hb9); have hQ := And.intro (cells4 (HO9.out.sees elSegment) HU.out) (cells4 (HO9.out.sees elSegment) HV.out)) | fail)
              all_goals
                go_wp2
                go_ret
                exact ⟨rfl, HB9.out⟩
          · have he' : ¬ ((j : Int) + 1 = (i : Int)) := by omega
            have HWn : Hid (wantS j i = 0) := Lib.hid (if_neg he)
            by_cases h1 : m = 0
            · subst h1
              go_wp2
              go_region_held3 (fun w' => (w'.cell? ⟨b, off + j * 4, none⟩ = some (.int .i64 u.1) ∧ w'.cell? ⟨b, off + j * 4 + 1, none⟩ = some (.int .i64 u.2.1) ∧ w'.cell? ⟨b, off + j * 4 + 2, none⟩ = some (.int .i64 u.2.2.1) ∧ w'.cell? ⟨b, off + j * 4 + 3, none⟩ = some (.int .i64 u.2.2.2)) ∧ (w'.cell? ⟨b, off + i * 4, none⟩ = some (.int .i64 v.1) ∧ w'.cell? ⟨b, off + i * 4 + 1, none⟩ = some (.int .i64 v.2.1) ∧ w'.cell? ⟨b, off + i * 4 + 2, none⟩ = some (.int .i64 v.2.2.1) ∧ w'.cell? ⟨b, off + i * 4 + 3, none⟩ = some (.int .i64 v.2.2.2))) (first | exact ⟨⟨k0, k1, k2, k3⟩, ⟨k4, k5, k6, k7⟩⟩ | exact hQ) (first
                | (go_at_call 113; refine (sHowS_is v u _ _ hm).mono ?_; rintro e w9 ⟨rfl, hb9⟩; have HB9 := Lib.hid (HB.out.drew.trans (hb9.mono HB.out.size)); have HO9 := Lib.hid ((HO.out.drew).belowAll hb9); have hQ := And.intro (cells4 (HO9.out.sees elSegment) HU.out) (cells4 (HO9.out.sees elSegment) HV.out)) | fail)
              all_goals
                go_wp2
                go_roundw
                case rel => exact ⟨j + 1, by omega, by go_num, Lib.hid (upto_step hq.out (smp_ok HU'.out HV'.out (HM.out.trans HWn.out.symm))), HO9, HB9⟩
                case measure => simp [intOf]; omega
            · obtain rfl : z = false := HZ.out.symm.trans (smp_no HU'.out HV'.out hlj (by rw [HM.out, HWn.out]; exact h1))
              go_wp2
              go_region_held3 (fun w' => (w'.cell? ⟨b, off + j * 4, none⟩ = some (.int .i64 u.1) ∧ w'.cell? ⟨b, off + j * 4 + 1, none⟩ = some (.int .i64 u.2.1) ∧ w'.cell? ⟨b, off + j * 4 + 2, none⟩ = some (.int .i64 u.2.2.1) ∧ w'.cell? ⟨b, off + j * 4 + 3, none⟩ = some (.int .i64 u.2.2.2)) ∧ (w'.cell? ⟨b, off + i * 4, none⟩ = some (.int .i64 v.1) ∧ w'.cell? ⟨b, off + i * 4 + 1, none⟩ = some (.int .i64 v.2.1) ∧ w'.cell? ⟨b, off + i * 4 + 2, none⟩ = some (.int .i64 v.2.2.1) ∧ w'.cell? ⟨b, off + i * 4 + 3, none⟩ = some (.int .i64 v.2.2.2))) (first | exact ⟨⟨k0, k1, k2, k3⟩, ⟨k4, k5, k6, k7⟩⟩ | exact hQ) (first
                | (go_at_call 113; refine (sHowS_is v u _ _ hm).mono ?_; rintro e w9 ⟨rfl, hb9⟩; have HB9 := Lib.hid (HB.out.drew.trans (hb9.mono HB.out.size)); have HO9 := Lib.hid ((HO.out.drew).belowAll hb9); have hQ := And.intro (cells4 (HO9.out.sees elSegment) HU.out) (cells4 (HO9.out.sees elSegment) HV.out)) | fail)
              all_goals
                go_wp2
                go_ret
                exact ⟨rfl, HB9.out⟩
        · obtain rfl : j = i := by omega
          go_wp2
          go_roundw
          case rel => exact ⟨j + 1, by omega, by go_num, Lib.hid (upto_step hp.out hq.out), HO, HB⟩
          case measure => simp [intOf]; omega
    · obtain rfl : i = L.length := by omega
      go_wp2_with (go_at_call 106; refine (sIsLine_is A c l _ ((HS.out.below HB.out).mono HB.out.size) hl z ?_).mono ?_)
      · rw [HL.out] at hp; exact (smp_all hp.out).trans HZ.out
      · rintro e w9 ⟨rfl, hb9⟩
        go_wp2
        go_ret
        exact ⟨rfl, HB.out.trans (hb9.mono HB.out.size)⟩
theorem mxS_step {n : Int} {s : Int × Int × Int × Int} {T : List (Int × Int × Int × Int)} {j : Nat} {x : Int × Int × Int × Int} (hx : T[j]? = some x) : extV true (mxS n s (T.take j)) (howS s x) = mxS n s (T.take (j + 1)) := by
  rw [List.take_add_one, hx]; exact (mxS_snoc _ _ _ _).symm
theorem mtV_step {S T : List (Int × Int × Int × Int)} {i : Nat} {u : Int × Int × Int × Int} (hu : S[i]? = some u) : mxS (mtV (S.take i) T) u T = mtV (S.take (i + 1)) T := by
  rw [List.take_add_one, hu]; exact (mtV_snoc _ _ _).symm
end Go.Proofs.YtbnjaaegbmhopaaGreatDoor
end
section
/- Rings in the model: l7Segments, RotateRing, TurnRing. -/
namespace Go.Proofs.YtbnjaaegbmhopaaGreatDoor
open Go.ChangeShapes Go.WideShapes Go.ChangeAt Go.RowKit
set_option linter.unusedVariables false

theorem keepAr {w : World} {p : Addr} {v : Value} (h : w.cell? p = some v) (o : Obj) : (w.alloc o).cell? p = some v :=
  (World.cell?_of_block (Below.heap_alloc _ _ _ (World.block_lt_of_cell? w p h))).trans h
theorem rgs_step {S L L2 : List (Int × Int × Int × Int)} {j : Nat} {x : Int × Int × Int × Int} (hL : L = S.take j) (h : L2 = L ++ [x]) (hx : S[j]? = some x) : L2 = S.take (j + 1) := by
  rw [h, hL, List.take_add_one, hx]; rfl
set_option maxRecDepth 100000 in
set_option maxHeartbeats 1000000 in
theorem l7Segments_any (A : Option Addr) (c : Nat) (l : List (Int × Int)) (w : World) (hs : SeesE 2 encPoint w w.heap.size A l) (hl : l.length ≤ 274877906944) :
    Calls Tryz.prog 107 #[.slice A l.length c] w (GivesE 4 encSegment 78 (rgS l) w) := by
  have HS := Lib.hid hs; clear hs
  have hrl := rgS_len l
  go_enter Tryz.func107, Tryz.ntmps107
  go_wp2
  go_loopw [3, 4] (fun v i wr => ∃ (A1 : Option Addr) (c1 : Nat) (L : List (Int × Int × Int × Int)) (j : Nat), v = .slice A1 L.length c1 ∧ i = .int .i64 (j : Int) ∧ j ≤ l.length ∧ Hid (L = (rgS l).take j) ∧ Hid (L.length = j) ∧ Hid (OwnE 4 encSegment wr w.heap.size 78 (.slice A1 L.length c1) L) ∧ Hid (Below w.heap.size w wr)) (fun _ i _ => l.length - (intOf i).toNat)
  case atStart => exact ⟨_, _, [], 0, rfl, rfl, Nat.zero_le _, Lib.hid (by simp), Lib.hid rfl, Lib.hid (OwnE.lit w _ _ (Nat.le_refl _)), Lib.hid ((Below.refl _ _).alloc (Nat.le_refl _) _)⟩
  case round =>
    obtain ⟨A1, c1, L, j, rfl, rfl, hj, hL, HN, HO, HB⟩ := hrel
    by_cases hlt : j < l.length
    · have hlt' : (j : Int) < (l.length : Int) := by omega
      have hrem2 : wrap64 ((j : Int) + 1) = (j : Int) + 1 := by unfold wrap64; omega
      have hrem3 : IntKind.i64.wrap ((j : Int) + 1) = (j : Int) + 1 := IntWalk.i64_in _ (by omega)
      obtain ⟨⟨x0, x1⟩, hx⟩ : ∃ p, l[j]? = some p := ⟨_, List.getElem?_eq_getElem hlt⟩
      obtain ⟨k, hk, hkl⟩ : ∃ k, (j + 1) % l.length = k ∧ k < l.length := ⟨_, rfl, Nat.mod_lt _ (by omega)⟩
      obtain ⟨⟨y0, y1⟩, hy⟩ : ∃ p, l[k]? = some p := ⟨_, List.getElem?_eq_getElem hkl⟩
      have HJ : Hid ((rgS l)[j]? = some (x0, x1, y0, y1)) := Lib.hid (rgS_get hx (by rw [hk]; exact hy))
      obtain ⟨b, off, rfl, hbl, -⟩ := HS.out j _ hx
      obtain ⟨k0, k1⟩ := cellsPoint (HS.out.below HB.out) hx
      obtain ⟨k2, k3⟩ := cellsPoint (HS.out.below HB.out) hy
      have hkl' : (k : Int) < (l.length : Int) := by omega
      have hne : ¬ ((l.length : Int) = 0) := by omega
      have hne2 : ¬ (l = []) := fun e => by rw [e] at hlt; simp at hlt
      have hone : L.length + [(x0, x1, y0, y1)].length ≤ 1099511627776 := by rw [HN.out]; simp; omega
      have d0 : wr.drew.cell? ⟨b, off + j * 2, none⟩ = some (.int .i64 x0) := k0
      have d1 : wr.drew.cell? ⟨b, off + j * 2 + 1, none⟩ = some (.int .i64 x1) := k1
      have d2 : wr.drew.cell? ⟨b, off + k * 2, none⟩ = some (.int .i64 y0) := k2
      have d3 : wr.drew.cell? ⟨b, off + k * 2 + 1, none⟩ = some (.int .i64 y1) := k3
      have HQ1 := Lib.hid (And.intro d0 (And.intro d1 (And.intro d2 d3)))
      have HQ2 := Lib.hid (And.intro (keepAr d0 (.cells (sC (x0, x1, y0, y1)) 78)) (And.intro (keepAr d1 (.cells (sC (x0, x1, y0, y1)) 78)) (And.intro (keepAr d2 (.cells (sC (x0, x1, y0, y1)) 78)) (keepAr d3 (.cells (sC (x0, x1, y0, y1)) 78)))))
      clear d0 d1 d2 d3
      have HB2 := Lib.hid (HB.out.drew.alloc HB.out.size (.cells (sC (x0, x1, y0, y1)) 78))
      have HO2 := Lib.hid (HO.out.drew.alloc (.cells (sC (x0, x1, y0, y1)) 78))
      have HX2 := Lib.hid (seesE_new elSegment wr.drew (x0, x1, y0, y1) (sC (x0, x1, y0, y1)) 78 (wr.drew.heap.size + 1) (Nat.lt_succ_self _) rfl)
      have hrem : ((j : Int) + 1).tmod (l.length : Int) = (k : Int) := by
        rw [Int.tmod_eq_emod_of_nonneg (by omega)]; exact_mod_cast hk
      clear hx hy hk
      go_wp2
      go_region_held3 (fun w' => w'.cell? ⟨b, off + j * 2, none⟩ = some (.int .i64 x0) ∧ w'.cell? ⟨b, off + j * 2 + 1, none⟩ = some (.int .i64 x1) ∧ w'.cell? ⟨b, off + k * 2, none⟩ = some (.int .i64 y0) ∧ w'.cell? ⟨b, off + k * 2 + 1, none⟩ = some (.int .i64 y1)) (first | with_reducible exact ⟨k0, k1, k2, k3⟩ | with_reducible exact HQ1.out | with_reducible exact HQ2.out | exact ⟨keepAr k0 _, keepAr k1 _, keepAr k2 _, keepAr k3 _⟩ | with_reducible exact hc4.out) (first
        | (refine stepSg (wr.drew.alloc (.cells (sC (x0, x1, y0, y1)) 78)) _ _ (by rfl) w.heap.size (.slice A1 L.length c1) L (by rfl) HO2.out (wr.drew.heap.size + 1) (some ⟨wr.drew.heap.size, 0, none⟩) 1 1 [(x0, x1, y0, y1)] (by rfl) (by rfl) HX2.out hone HB2.out.size ?_; intro A4 c4 L4 w4 hL4 h1 h2 ho4 hb4; have hc4 := Lib.hid (And.intro ((hb4.cell (p := ⟨b, off + j * 2, none⟩) hbl).trans HQ2.out.1) (And.intro ((hb4.cell (p := ⟨b, off + j * 2 + 1, none⟩) hbl).trans HQ2.out.2.1) (And.intro ((hb4.cell (p := ⟨b, off + k * 2, none⟩) hbl).trans HQ2.out.2.2.1) ((hb4.cell (p := ⟨b, off + k * 2 + 1, none⟩) hbl).trans HQ2.out.2.2.2))))) | fail)
      go_wp2
      go_roundw
      case rel => exact ⟨A4, c4, L4, j + 1, rfl, by go_num, by omega, Lib.hid (rgs_step hL.out hL4.out HJ.out), Lib.hid (by have := HN.out; simp at h1 h2; omega), Lib.hid ho4, Lib.hid (HB2.out.trans hb4)⟩
      case measure => simp [intOf]; omega
    · obtain rfl : j = l.length := by omega
      go_wp2
      go_ret
      exact ⟨A1, c1, L, Lib.hid (by rw [hL.out, List.take_of_length_le (by omega)]), rfl, HO.out, HB.out⟩
end Go.Proofs.YtbnjaaegbmhopaaGreatDoor
end
section
/- Rings in the model: IsRing and RingSegments. -/
namespace Go.Proofs.YtbnjaaegbmhopaaGreatDoor
open Go.ChangeShapes Go.WideShapes Go.ChangeAt Go.RowKit
set_option linter.unusedVariables false

theorem sIsSegS_is (s : Int × Int × Int × Int) (k : Bool) (w : World) (h : sOk s = k) :
    Calls Tryz.prog 136 #[sV s] w fun e w' => e = .returned (.bool k) ∧ Below w.heap.size w w' := sIsSegment_is _ _ _ _ k w h
theorem rg_no_seg {l : List (Int × Int)} {i : Nat} {s : Int × Int × Int × Int} (hs : (rgS l)[i]? = some s) (h : sOk s = false) : isRg l = false := by
  cases hh : isRg l
  · rfl
  · rw [((isRg_iff l).1 hh).2.1 s (List.mem_of_getElem? hs)] at h; cases h
theorem rg_no_turn {l : List (Int × Int)} {i k : Nat} {u v : Int × Int × Int × Int} (hi : (rgS l)[i]? = some u) (hk : (rgS l)[k]? = some v) (hik : i < k) (h : ¬ howS u v = wantC true (rgS l).length i k) : isRg l = false := by
  rw [isRg_turn, turn_no hi hk hik h, Bool.and_false]
set_option maxRecDepth 100000 in
set_option maxHeartbeats 2000000 in
theorem sIsRing_is (A : Option Addr) (c : Nat) (l : List (Int × Int)) (w : World) (hs : SeesE 2 encPoint w w.heap.size A l) (hl : l.length ≤ 274877906944) (z : Bool) (hz : isRg l = z) :
    Calls Tryz.prog 105 #[.slice A l.length c] w fun e w' => e = .returned (.bool z) ∧ Below w.heap.size w w' := by
  have HS := Lib.hid hs
  have HZ := Lib.hid hz
  clear hs hz
  go_enter Tryz.func105, Tryz.ntmps105
  cases hin : inB l.length 3 10
  · obtain rfl : z = false := by rw [← HZ.out, isRg_turn, hin]; rfl
    go_wp2_with (go_at_call 101; refine (l1in_is _ _ _ _ _ hin).mono ?_; rintro e w1 ⟨rfl, rfl⟩)
    go_ret
    exact ⟨rfl, Below.refl _ _⟩
  · have h310 : 3 ≤ l.length ∧ l.length ≤ 10 := by simp only [inB, decide_eq_true_eq] at hin; omega
    go_wp2_with (first
      | (go_at_call 101; refine (l1in_is _ _ _ _ _ hin).mono ?_; rintro e w1 ⟨rfl, rfl⟩)
      | (go_at_call 107; refine (l7Segments_any A c l _ HS.out hl).mono ?_; rintro e w1 ⟨A1, c1, L, hL, rfl, ho1, hb1⟩))
    have HO1 := Lib.hid ho1; have HB1 := Lib.hid hb1; have HL := hL
    have h10 : L.length ≤ 10 := by rw [hL.out, rgS_len]; exact h310.2
    have HTV : Hid (turnV true L = z) := Lib.hid (by rw [← HZ.out, isRg_turn, hin, Bool.true_and, HL.out])
    clear ho1 hb1 hL h310
    go_loopw [4] (fun i wr => ∃ j : Nat, j ≤ L.length ∧ i = .int .i64 j ∧ Hid (∀ k, k < j → ∀ i, i < k → prOk true L i k = true) ∧ Hid (OwnE 4 encSegment wr w.heap.size 78 (.slice A1 L.length c1) L) ∧ Hid (Below w.heap.size w wr)) (fun i _ => L.length - (intOf i).toNat)
    case atStart => exact ⟨0, Nat.zero_le _, rfl, Lib.hid (fun k hk => by omega), HO1, HB1⟩
    case round =>
      obtain ⟨i, hi, rfl, hp, HO, HB⟩ := hrel
      clear HO1 HB1
      by_cases hlt : i < L.length
      · have hli : (i : Int) < (L.length : Int) := by omega
        obtain ⟨b, off, v, rfl, hbl, hv, -⟩ := (HO.out.sees elSegment).lt hlt
        obtain ⟨k4, k5, k6, k7⟩ := cells4 (HO.out.sees elSegment) hv
        have HV := Lib.hid hv
        have HV' : Hid ((rgS l)[i]? = some v) := Lib.hid (by rw [← HL.out]; exact hv)
        clear hv
        cases hok : sOk v
        · obtain rfl : z = false := HZ.out.symm.trans (rg_no_seg HV'.out hok)
          go_wp2_with (go_at_call 136; refine (sIsSegS_is v false _ hok).mono ?_; rintro e w9 ⟨rfl, hb9⟩)
          go_ret
          exact ⟨rfl, HB.out.trans (hb9.mono HB.out.size)⟩
        · go_wp2_with (go_at_call 136; refine (sIsSegS_is v true _ hok).mono ?_; rintro e w9 ⟨rfl, hb9⟩; have HB9 := Lib.hid (HB.out.trans (hb9.mono HB.out.size)); have HO9 := Lib.hid (HO.out.belowAll hb9))
          clear hb9 k4 k5 k6 k7
          go_loopw [5] (fun k wx => ∃ j : Nat, j ≤ i ∧ k = .int .i64 j ∧ Hid (∀ q, q < j → prOk true L q i = true) ∧ Hid (OwnE 4 encSegment wx w.heap.size 78 (.slice (some ⟨b, off, none⟩) L.length c1) L) ∧ Hid (Below w.heap.size w wx)) (fun k _ => i - (intOf k).toNat)
          case atStart => exact ⟨0, Nat.zero_le _, rfl, Lib.hid (fun k hk => by omega), HO9, HB9⟩
          case round =>
            obtain ⟨j, hj, rfl, hq, HO, HB⟩ := hrel
            by_cases hlj : j < i
            · have hlj' : (j : Int) < (L.length : Int) := by omega
              have hlj2 : (j : Int) < (i : Int) := by omega
              obtain ⟨u, hu⟩ : ∃ u, L[j]? = some u := ⟨_, List.getElem?_eq_getElem (by omega)⟩
              obtain ⟨k0, k1, k2, k3⟩ := cells4 (HO.out.sees elSegment) hu
              obtain ⟨k4, k5, k6, k7⟩ := cells4 (HO.out.sees elSegment) HV.out
              have HU := Lib.hid hu
              have HU' : Hid ((rgS l)[j]? = some u) := Lib.hid (by rw [← HL.out]; exact hu)
              clear hu
              obtain ⟨m, hm⟩ : ∃ m, howS v u = m := ⟨_, rfl⟩
              have HM : Hid (howS u v = m) := Lib.hid (by rw [← hm]; exact howS_comm v u)
              have hw1 : wrap64 ((j : Int) + 1) = (j : Int) + 1 := by unfold wrap64; omega
              have hw2 : wrap64 ((i : Int) + 1) = (i : Int) + 1 := by unfold wrap64; omega
              by_cases he : j + 1 = i
              · have he1 : ((j : Int) + 1 == (i : Int)) = true := by simp; omega
                have he2 : (j : Int) + 1 = (i : Int) := by omega
                have HWn : Hid (wantC true L.length j i = 1) := Lib.hid (if_pos (.inl he))
                by_cases h1 : m = 1
                · subst h1
                  go_wp2
                  go_region_held3 (fun w' => (w'.cell? ⟨b, off + j * 4, none⟩ = some (.int .i64 u.1) ∧ w'.cell? ⟨b, off + j * 4 + 1, none⟩ = some (.int .i64 u.2.1) ∧ w'.cell? ⟨b, off + j * 4 + 2, none⟩ = some (.int .i64 u.2.2.1) ∧ w'.cell? ⟨b, off + j * 4 + 3, none⟩ = some (.int .i64 u.2.2.2)) ∧ (w'.cell? ⟨b, off + i * 4, none⟩ = some (.int .i64 v.1) ∧ w'.cell? ⟨b, off + i * 4 + 1, none⟩ = some (.int .i64 v.2.1) ∧ w'.cell? ⟨b, off + i * 4 + 2, none⟩ = some (.int .i64 v.2.2.1) ∧ w'.cell? ⟨b, off + i * 4 + 3, none⟩ = some (.int .i64 v.2.2.2))) (first | exact ⟨⟨k0, k1, k2, k3⟩, ⟨k4, k5, k6, k7⟩⟩ | exact hQ) (first
                    | (go_at_call 113; refine (sHowS_is v u _ _ hm).mono ?_; rintro e w9 ⟨rfl, hb9⟩; have HB9 := Lib.hid (HB.out.drew.trans (hb9.mono HB.out.size)); have HO9 := Lib.hid ((HO.out.drew).belowAll hb9); have hQ := And.intro (cells4 (HO9.out.sees elSegment) HU.out) (cells4 (HO9.out.sees elSegment) HV.out)) | fail)
                  all_goals
                    go_wp2
                    go_roundw
                    case rel => exact ⟨j + 1, by omega, by go_num, Lib.hid (upto_step hq.out (pr_ok HU.out HV.out (HM.out.trans HWn.out.symm))), HO9, HB9⟩
                    case measure => simp [intOf]; omega
                · obtain rfl : z = false := HZ.out.symm.trans (rg_no_turn HU'.out HV'.out hlj (by rw [← HL.out, HM.out, HWn.out]; exact h1))
                  go_wp2
                  go_region_held3 (fun w' => (w'.cell? ⟨b, off + j * 4, none⟩ = some (.int .i64 u.1) ∧ w'.cell? ⟨b, off + j * 4 + 1, none⟩ = some (.int .i64 u.2.1) ∧ w'.cell? ⟨b, off + j * 4 + 2, none⟩ = some (.int .i64 u.2.2.1) ∧ w'.cell? ⟨b, off + j * 4 + 3, none⟩ = some (.int .i64 u.2.2.2)) ∧ (w'.cell? ⟨b, off + i * 4, none⟩ = some (.int .i64 v.1) ∧ w'.cell? ⟨b, off + i * 4 + 1, none⟩ = some (.int .i64 v.2.1) ∧ w'.cell? ⟨b, off + i * 4 + 2, none⟩ = some (.int .i64 v.2.2.1) ∧ w'.cell? ⟨b, off + i * 4 + 3, none⟩ = some (.int .i64 v.2.2.2))) (first | exact ⟨⟨k0, k1, k2, k3⟩, ⟨k4, k5, k6, k7⟩⟩ | exact hQ) (first
                    | (go_at_call 113; refine (sHowS_is v u _ _ hm).mono ?_; rintro e w9 ⟨rfl, hb9⟩; have HB9 := Lib.hid (HB.out.drew.trans (hb9.mono HB.out.size)); have HO9 := Lib.hid ((HO.out.drew).belowAll hb9); have hQ := And.intro (cells4 (HO9.out.sees elSegment) HU.out) (cells4 (HO9.out.sees elSegment) HV.out)) | fail)
                  all_goals
                    go_wp2
                    go_ret
                    exact ⟨rfl, HB9.out⟩
              · have he1 : ((j : Int) + 1 == (i : Int)) = false := by simp; omega
                have he2 : ¬ ((j : Int) + 1 = (i : Int)) := by omega
                by_cases hj0 : j = 0
                · have hj1 : ((j : Int) == 0) = true := by simp; omega
                  have HJ0 := Lib.hid hj0
                  clear hj0
                  by_cases hi0 : i + 1 = L.length
                  · have hi1 : ((i : Int) + 1 == (L.length : Int)) = true := by simp; omega
                    have hi2 : (i : Int) + 1 = (L.length : Int) := by omega
                    have HWn : Hid (wantC true L.length j i = 1) := Lib.hid (if_pos (.inr ⟨rfl, HJ0.out, hi0⟩))
                    by_cases h1 : m = 1
                    · subst h1
                      go_wp2
                      go_region_held3 (fun w' => (w'.cell? ⟨b, off + j * 4, none⟩ = some (.int .i64 u.1) ∧ w'.cell? ⟨b, off + j * 4 + 1, none⟩ = some (.int .i64 u.2.1) ∧ w'.cell? ⟨b, off + j * 4 + 2, none⟩ = some (.int .i64 u.2.2.1) ∧ w'.cell? ⟨b, off + j * 4 + 3, none⟩ = some (.int .i64 u.2.2.2)) ∧ (w'.cell? ⟨b, off + i * 4, none⟩ = some (.int .i64 v.1) ∧ w'.cell? ⟨b, off + i * 4 + 1, none⟩ = some (.int .i64 v.2.1) ∧ w'.cell? ⟨b, off + i * 4 + 2, none⟩ = some (.int .i64 v.2.2.1) ∧ w'.cell? ⟨b, off + i * 4 + 3, none⟩ = some (.int .i64 v.2.2.2))) (first | exact ⟨⟨k0, k1, k2, k3⟩, ⟨k4, k5, k6, k7⟩⟩ | exact hQ) (first
                        | (go_at_call 113; refine (sHowS_is v u _ _ hm).mono ?_; rintro e w9 ⟨rfl, hb9⟩; have HB9 := Lib.hid (HB.out.drew.trans (hb9.mono HB.out.size)); have HO9 := Lib.hid ((HO.out.drew).belowAll hb9); have hQ := And.intro (cells4 (HO9.out.sees elSegment) HU.out) (cells4 (HO9.out.sees elSegment) HV.out)) | fail)
                      all_goals
                        go_wp2
                        go_roundw
                        case rel => exact ⟨j + 1, by omega, by go_num, Lib.hid (upto_step hq.out (pr_ok HU.out HV.out (HM.out.trans HWn.out.symm))), HO9, HB9⟩
                        case measure => simp [intOf]; omega
                    · obtain rfl : z = false := HZ.out.symm.trans (rg_no_turn HU'.out HV'.out hlj (by rw [← HL.out, HM.out, HWn.out]; exact h1))
                      go_wp2
                      go_region_held3 (fun w' => (w'.cell? ⟨b, off + j * 4, none⟩ = some (.int .i64 u.1) ∧ w'.cell? ⟨b, off + j * 4 + 1, none⟩ = some (.int .i64 u.2.1) ∧ w'.cell? ⟨b, off + j * 4 + 2, none⟩ = some (.int .i64 u.2.2.1) ∧ w'.cell? ⟨b, off + j * 4 + 3, none⟩ = some (.int .i64 u.2.2.2)) ∧ (w'.cell? ⟨b, off + i * 4, none⟩ = some (.int .i64 v.1) ∧ w'.cell? ⟨b, off + i * 4 + 1, none⟩ = some (.int .i64 v.2.1) ∧ w'.cell? ⟨b, off + i * 4 + 2, none⟩ = some (.int .i64 v.2.2.1) ∧ w'.cell? ⟨b, off + i * 4 + 3, none⟩ = some (.int .i64 v.2.2.2))) (first | exact ⟨⟨k0, k1, k2, k3⟩, ⟨k4, k5, k6, k7⟩⟩ | exact hQ) (first
                        | (go_at_call 113; refine (sHowS_is v u _ _ hm).mono ?_; rintro e w9 ⟨rfl, hb9⟩; have HB9 := Lib.hid (HB.out.drew.trans (hb9.mono HB.out.size)); have HO9 := Lib.hid ((HO.out.drew).belowAll hb9); have hQ := And.intro (cells4 (HO9.out.sees elSegment) HU.out) (cells4 (HO9.out.sees elSegment) HV.out)) | fail)
                      all_goals
                        go_wp2
                        go_ret
                        exact ⟨rfl, HB9.out⟩
                  · have hi1 : ((i : Int) + 1 == (L.length : Int)) = false := by simp; omega
                    have hi2 : ¬ ((i : Int) + 1 = (L.length : Int)) := by omega
                    have HWn : Hid (wantC true L.length j i = 0) := Lib.hid (if_neg (by simp; omega))
                    by_cases h1 : m = 0
                    · subst h1
                      go_wp2
                      go_region_held3 (fun w' => (w'.cell? ⟨b, off + j * 4, none⟩ = some (.int .i64 u.1) ∧ w'.cell? ⟨b, off + j * 4 + 1, none⟩ = some (.int .i64 u.2.1) ∧ w'.cell? ⟨b, off + j * 4 + 2, none⟩ = some (.int .i64 u.2.2.1) ∧ w'.cell? ⟨b, off + j * 4 + 3, none⟩ = some (.int .i64 u.2.2.2)) ∧ (w'.cell? ⟨b, off + i * 4, none⟩ = some (.int .i64 v.1) ∧ w'.cell? ⟨b, off + i * 4 + 1, none⟩ = some (.int .i64 v.2.1) ∧ w'.cell? ⟨b, off + i * 4 + 2, none⟩ = some (.int .i64 v.2.2.1) ∧ w'.cell? ⟨b, off + i * 4 + 3, none⟩ = some (.int .i64 v.2.2.2))) (first | exact ⟨⟨k0, k1, k2, k3⟩, ⟨k4, k5, k6, k7⟩⟩ | exact hQ) (first
                        | (go_at_call 113; refine (sHowS_is v u _ _ hm).mono ?_; rintro e w9 ⟨rfl, hb9⟩; have HB9 := Lib.hid (HB.out.drew.trans (hb9.mono HB.out.size)); have HO9 := Lib.hid ((HO.out.drew).belowAll hb9); have hQ := And.intro (cells4 (HO9.out.sees elSegment) HU.out) (cells4 (HO9.out.sees elSegment) HV.out)) | fail)
                      all_goals
                        go_wp2
                        go_roundw
                        case rel => exact ⟨j + 1, by omega, by go_num, Lib.hid (upto_step hq.out (pr_ok HU.out HV.out (HM.out.trans HWn.out.symm))), HO9, HB9⟩
                        case measure => simp [intOf]; omega
                    · obtain rfl : z = false := HZ.out.symm.trans (rg_no_turn HU'.out HV'.out hlj (by rw [← HL.out, HM.out, HWn.out]; exact h1))
                      go_wp2
                      go_region_held3 (fun w' => (w'.cell? ⟨b, off + j * 4, none⟩ = some (.int .i64 u.1) ∧ w'.cell? ⟨b, off + j * 4 + 1, none⟩ = some (.int .i64 u.2.1) ∧ w'.cell? ⟨b, off + j * 4 + 2, none⟩ = some (.int .i64 u.2.2.1) ∧ w'.cell? ⟨b, off + j * 4 + 3, none⟩ = some (.int .i64 u.2.2.2)) ∧ (w'.cell? ⟨b, off + i * 4, none⟩ = some (.int .i64 v.1) ∧ w'.cell? ⟨b, off + i * 4 + 1, none⟩ = some (.int .i64 v.2.1) ∧ w'.cell? ⟨b, off + i * 4 + 2, none⟩ = some (.int .i64 v.2.2.1) ∧ w'.cell? ⟨b, off + i * 4 + 3, none⟩ = some (.int .i64 v.2.2.2))) (first | exact ⟨⟨k0, k1, k2, k3⟩, ⟨k4, k5, k6, k7⟩⟩ | exact hQ) (first
                        | (go_at_call 113; refine (sHowS_is v u _ _ hm).mono ?_; rintro e w9 ⟨rfl, hb9⟩; have HB9 := Lib.hid (HB.out.drew.trans (hb9.mono HB.out.size)); have HO9 := Lib.hid ((HO.out.drew).belowAll hb9); have hQ := And.intro (cells4 (HO9.out.sees elSegment) HU.out) (cells4 (HO9.out.sees elSegment) HV.out)) | fail)
                      all_goals
                        go_wp2
                        go_ret
                        exact ⟨rfl, HB9.out⟩
                · have hj1 : ((j : Int) == 0) = false := by simp; omega
                  have hj2 : ¬ ((j : Int) = 0) := by omega
                  have HWn : Hid (wantC true L.length j i = 0) := Lib.hid (if_neg (by simp; omega))
                  by_cases h1 : m = 0
                  · subst h1
                    go_wp2
                    go_region_held3 (fun w' => (w'.cell? ⟨b, off + j * 4, none⟩ = some (.int .i64 u.1) ∧ w'.cell? ⟨b, off + j * 4 + 1, none⟩ = some (.int .i64 u.2.1) ∧ w'.cell? ⟨b, off + j * 4 + 2, none⟩ = some (.int .i64 u.2.2.1) ∧ w'.cell? ⟨b, off + j * 4 + 3, none⟩ = some (.int .i64 u.2.2.2)) ∧ (w'.cell? ⟨b, off + i * 4, none⟩ = some (.int .i64 v.1) ∧ w'.cell? ⟨b, off + i * 4 + 1, none⟩ = some (.int .i64 v.2.1) ∧ w'.cell? ⟨b, off + i * 4 + 2, none⟩ = some (.int .i64 v.2.2.1) ∧ w'.cell? ⟨b, off + i * 4 + 3, none⟩ = some (.int .i64 v.2.2.2))) (first | exact ⟨⟨k0, k1, k2, k3⟩, ⟨k4, k5, k6, k7⟩⟩ | exact hQ) (first
                      | (go_at_call 113; refine (sHowS_is v u _ _ hm).mono ?_; rintro e w9 ⟨rfl, hb9⟩; have HB9 := Lib.hid (HB.out.drew.trans (hb9.mono HB.out.size)); have HO9 := Lib.hid ((HO.out.drew).belowAll hb9); have hQ := And.intro (cells4 (HO9.out.sees elSegment) HU.out) (cells4 (HO9.out.sees elSegment) HV.out)) | fail)
                    all_goals
                      go_wp2
                      go_roundw
                      case rel => exact ⟨j + 1, by omega, by go_num, Lib.hid (upto_step hq.out (pr_ok HU.out HV.out (HM.out.trans HWn.out.symm))), HO9, HB9⟩
                      case measure => simp [intOf]; omega
                  · obtain rfl : z = false := HZ.out.symm.trans (rg_no_turn HU'.out HV'.out hlj (by rw [← HL.out, HM.out, HWn.out]; exact h1))
                    go_wp2
                    go_region_held3 (fun w' => (w'.cell? ⟨b, off + j * 4, none⟩ = some (.int .i64 u.1) ∧ w'.cell? ⟨b, off + j * 4 + 1, none⟩ = some (.int .i64 u.2.1) ∧ w'.cell? ⟨b, off + j * 4 + 2, none⟩ = some (.int .i64 u.2.2.1) ∧ w'.cell? ⟨b, off + j * 4 + 3, none⟩ = some (.int .i64 u.2.2.2)) ∧ (w'.cell? ⟨b, off + i * 4, none⟩ = some (.int .i64 v.1) ∧ w'.cell? ⟨b, off + i * 4 + 1, none⟩ = some (.int .i64 v.2.1) ∧ w'.cell? ⟨b, off + i * 4 + 2, none⟩ = some (.int .i64 v.2.2.1) ∧ w'.cell? ⟨b, off + i * 4 + 3, none⟩ = some (.int .i64 v.2.2.2))) (first | exact ⟨⟨k0, k1, k2, k3⟩, ⟨k4, k5, k6, k7⟩⟩ | exact hQ) (first
                      | (go_at_call 113; refine (sHowS_is v u _ _ hm).mono ?_; rintro e w9 ⟨rfl, hb9⟩; have HB9 := Lib.hid (HB.out.drew.trans (hb9.mono HB.out.size)); have HO9 := Lib.hid ((HO.out.drew).belowAll hb9); have hQ := And.intro (cells4 (HO9.out.sees elSegment) HU.out) (cells4 (HO9.out.sees elSegment) HV.out)) | fail)
                    all_goals
                      go_wp2
                      go_ret
                      exact ⟨rfl, HB9.out⟩
            · obtain rfl : j = i := by omega
              go_wp2
              go_roundw
              case rel => exact ⟨j + 1, by omega, by go_num, Lib.hid (upto_step hp.out hq.out), HO, HB⟩
              case measure => simp [intOf]; omega
      · obtain rfl : i = L.length := by omega
        obtain rfl : z = true := HTV.out.symm.trans (turn_yes hp.out)
        go_wp2
        go_ret
        exact ⟨rfl, HB.out⟩
end Go.Proofs.YtbnjaaegbmhopaaGreatDoor
end
section
/- Features: IsFeature of the model. -/
namespace Go.Proofs.YtbnjaaegbmhopaaGreatDoor
open Go.ChangeShapes Go.WideShapes Go.ChangeAt Go.RowKit
set_option linter.unusedVariables false

theorem feat_1 {a k r : Int} {s : ByteArray} {ps : List (Int × Int)} (h : inB a 1 99 = false) : featV (a, k, r, s, ps) = false := by simp [featV, h]
theorem feat_2 {a k r : Int} {s : ByteArray} {ps : List (Int × Int)} (h : inB r 0 9 = false) : featV (a, k, r, s, ps) = false := by simp [featV, h]
theorem feat_3 {a k r : Int} {s : ByteArray} {ps : List (Int × Int)} (h : ¬ s.size = 0) (h' : nameV s = false) : featV (a, k, r, s, ps) = false := by simp only [featV, h', decide_eq_false h, Bool.false_or, Bool.false_and, Bool.and_false]
theorem feat_4 {a k r : Int} {s : ByteArray} {ps : List (Int × Int)} (h1 : inB a 1 99 = true) (h2 : inB r 0 9 = true) (h3 : s.size = 0 ∨ nameV s = true) : featV (a, k, r, s, ps) = shapeV k ps := by
  have : (decide (s.size = 0) || nameV s) = true := by rcases h3 with h | h <;> simp [h]
  simp only [featV, h1, h2, this, Bool.true_and]
theorem shape_1 (ps : List (Int × Int)) : shapeV 1 ps = onePt ps := rfl
theorem shape_2 (ps : List (Int × Int)) : shapeV 2 ps = smpV ps := rfl
theorem shape_3 (ps : List (Int × Int)) : shapeV 3 ps = isRg ps := rfl
theorem shape_0 {k : Int} (ps : List (Int × Int)) (h1 : ¬ k = 1) (h2 : ¬ k = 2) (h3 : ¬ k = 3) : shapeV k ps = false := by simp [shapeV, h1, h2, h3]
theorem one_no {ps : List (Int × Int)} (h : ¬ ps.length = 1) : onePt ps = false := by
  match ps, h with
  | [], _ => rfl
  | [p], h => simp at h
  | _ :: _ :: _, _ => rfl
theorem empty_iff (s : ByteArray) : (s = ⟨#[]⟩) ↔ s.size = 0 := by
  constructor
  · rintro rfl; rfl
  · intro h
    obtain ⟨d⟩ := s
    have : d = #[] := Array.eq_empty_of_size_eq_zero h
    rw [this]
theorem empty_is (s : ByteArray) {z : Bool} (h : decide (s.size = 0) = z) : s.toList.isEmpty = z := by
  have hl : s.data.toList.length = s.size := Array.length_toList
  rw [← h, ByteArray.toList_eq, ← hl]
  cases s.data.toList <;> simp
set_option maxRecDepth 100000 in
set_option maxHeartbeats 2000000 in
theorem sIsFeature_is (a k r : Int) (s : ByteArray) (A : Option Addr) (c : Nat) (ps : List (Int × Int)) (z : Bool) (w : World) (hs : SeesE 2 encPoint w w.heap.size A ps) (hl : ps.length ≤ 274877906944) (hm : s.size ≤ maxLen) (hz : featV (a, k, r, s, ps) = z) :
    Calls Tryz.prog 62 #[FtV a k r s A ps.length c] w fun e w' => e = .returned (.bool z) ∧ Below w.heap.size w w' := by
  have HV := Lib.hid (Vars.of1 w (FtC a k r s A ps.length c) 41)
  have HS := Lib.hid hs
  have HZ := Lib.hid hz
  have HM := Lib.hid hm
  clear hs hz hm
  go_enter Tryz.func62, Tryz.ntmps62
  cases h1 : inB a 1 99
  · obtain rfl : false = z := (feat_1 h1).symm.trans HZ.out
    go_wp2_with fail
    refine (l1in_is _ _ _ false _ h1).mono ?_
    rintro e w1 ⟨rfl, rfl⟩
    go_wp2
    go_ret
    exact ⟨rfl, HV.out.1⟩
  cases h2 : inB r 0 9
  · obtain rfl : false = z := (feat_2 h2).symm.trans HZ.out
    go_wp2_with fail
    refine (l1in_is _ _ _ true _ h1).mono ?_
    rintro e w1 ⟨rfl, rfl⟩
    go_wp2_with fail
    refine (l1in_is _ _ _ false _ h2).mono ?_
    rintro e w1 ⟨rfl, rfl⟩
    go_wp2
    go_ret
    exact ⟨rfl, HV.out.1⟩
  obtain ⟨n, hn⟩ : ∃ n, nameV s = n := ⟨_, rfl⟩
  obtain ⟨m, hm⟩ : ∃ m, decide (s.size = 0) = m := ⟨_, rfl⟩
  have he := empty_is s hm
  by_cases hbad : m = false ∧ n = false
  · obtain ⟨rfl, rfl⟩ := hbad
    obtain rfl : false = z := (feat_3 (of_decide_eq_false hm) hn).symm.trans HZ.out
    clear hm
    go_wp2_with fail
    refine (l1in_is _ _ _ true _ h1).mono ?_
    rintro e w1 ⟨rfl, rfl⟩
    go_wp2_with fail
    refine (l1in_is _ _ _ true _ h2).mono ?_
    rintro e w1 ⟨rfl, rfl⟩
    go_wp2_with fail
    refine (sIsName_is s false _ HM.out hn).mono ?_
    rintro e w1 ⟨rfl, rfl⟩
    go_wp2
    go_ret
    exact ⟨rfl, HV.out.1⟩
  have HX : Hid (shapeV k ps = z) := Lib.hid (by
    rw [← feat_4 (s := s) h1 h2 ?_]; exact HZ.out
    cases m
    · cases n
      · exact absurd ⟨rfl, rfl⟩ hbad
      · exact .inr hn
    · exact .inl (of_decide_eq_true hm))
  go_upto_region 1 with fail
  go_cut [23] (fun s23 wx => s23 = .bool false ∧ Hid (Vars w wx [FtC a k r s A ps.length c]))
  case first =>
    cases m
    · cases n
      · exact absurd ⟨rfl, rfl⟩ hbad
      · clear hm hbad
        go_wp2_with fail
        refine (l1in_is _ _ _ true _ h1).mono ?_
        rintro e w1 ⟨rfl, rfl⟩
        go_wp2_with fail
        refine (l1in_is _ _ _ true _ h2).mono ?_
        rintro e w1 ⟨rfl, rfl⟩
        go_wp2_with fail
        refine (sIsName_is s true _ HM.out hn).mono ?_
        rintro e w1 ⟨rfl, rfl⟩
        go_wp2
        go_meet
        exact ⟨rfl, HV⟩
    · clear hm hbad
      go_wp2_with fail
      refine (l1in_is _ _ _ true _ h1).mono ?_
      rintro e w1 ⟨rfl, rfl⟩
      go_wp2_with fail
      refine (l1in_is _ _ _ true _ h2).mono ?_
      rintro e w1 ⟨rfl, rfl⟩
      go_wp2
      go_meet
      exact ⟨rfl, HV⟩
  case rest =>
  obtain ⟨rfl, HVc⟩ := hcut
  clear HV HZ h1 h2 hn hm he hbad
  have HSc := Lib.hid ((HS.out.below HVc.out.1).mono (Nat.le_trans (Nat.le_succ _) HVc.out.more1))
  obtain ⟨k0, k1, k2, k3, k4⟩ := HVc.out.c50
  by_cases e1 : k = 1
  · subst e1
    rw [shape_1] at HX
    by_cases hl1 : ps.length = 1
    · obtain ⟨⟨x, y⟩, rfl⟩ : ∃ p, ps = [p] := by
        match ps, hl1 with
        | [p], _ => exact ⟨p, rfl⟩
      obtain ⟨b, off, rfl, -, -⟩ := HSc.out 0 _ rfl
      obtain ⟨q0, q1⟩ := cellsPoint0 HSc.out rfl
      clear hl1
      go_wp2_with fail
      refine (sIsPoint_is x y z _ HX.out).mono ?_
      rintro e w1 ⟨rfl, hb1⟩
      have HV1 := Lib.hid (HVc.out.next hb1)
      clear hb1
      go_wp2
      go_ret
      exact ⟨rfl, HV1.out.1⟩
    · have hl1' : ¬ (ps.length : Int) = 1 := by omega
      obtain rfl : false = z := (one_no hl1).symm.trans HX.out
      clear hl1
      go_wp2
      go_ret
      exact ⟨rfl, HVc.out.1⟩
  by_cases e2 : k = 2
  · subst e2
    rw [shape_2] at HX
    go_wp2_with fail
    refine (sIsSimple_is A c ps _ HSc.out (by omega) z HX.out).mono ?_
    rintro e w1 ⟨rfl, hb1⟩
    have HV1 := Lib.hid (HVc.out.next hb1)
    clear hb1
    go_wp2
    go_ret
    exact ⟨rfl, HV1.out.1⟩
  by_cases e3 : k = 3
  · subst e3
    rw [shape_3] at HX
    go_wp2_with fail
    refine (sIsRing_is A c ps _ HSc.out hl z HX.out).mono ?_
    rintro e w1 ⟨rfl, hb1⟩
    have HV1 := Lib.hid (HVc.out.next hb1)
    clear hb1
    go_wp2
    go_ret
    exact ⟨rfl, HV1.out.1⟩
  obtain rfl : false = z := (shape_0 ps e1 e2 e3).symm.trans HX.out
  go_wp2
  go_ret
  exact ⟨rfl, HVc.out.1⟩
end Go.Proofs.YtbnjaaegbmhopaaGreatDoor
end
section
/- Lines: EqualLines and TurnLine, of package impl and of the model. -/
namespace Go.Proofs.YtbnjaaegbmhopaaGreatDoor
open Go.ChangeShapes Go.WideShapes Go.ChangeAt Go.RowKit
set_option linter.unusedVariables false

/-- Equal so far. -/
theorem eqPre_step {α : Type} {l m : List α} {j : Nat} (h : l.take j = m.take j) (hx : l[j]? = m[j]?) : l.take (j + 1) = m.take (j + 1) := by
  rw [List.take_add_one, List.take_add_one, h, hx]
theorem ne_of_get {α : Type} {l m : List α} {j : Nat} (h : l[j]? ≠ m[j]?) : l ≠ m := fun e => h (by rw [e])
theorem PtV_ne {a b c d : Int} (h : ¬ (a = c ∧ b = d)) : ((a, b) : Int × Int) ≠ (c, d) := fun e => h ⟨congrArg Prod.fst e, congrArg Prod.snd e⟩
def StRel (l : List (Int × Int)) (w : World) (v i : Value) (wr : World) : Prop :=
  ∃ (A : Option Addr) (c : Nat) (L : List (Int × Int)) (r : Nat), r ≤ l.length ∧ v = .slice A L.length c ∧ i = .int .i64 ((r : Int) - 1) ∧ Hid (L = l.reverse.take (l.length - r)) ∧ L.length = l.length - r ∧ OwnE 2 encPoint wr w.heap.size 33 (.slice A L.length c) L ∧ Below w.heap.size w wr
theorem st_step {l L L2 : List (Int × Int)} {m : Nat} {x : Int × Int} (hm : m + 1 ≤ l.length) (hL : L = l.reverse.take (l.length - (m + 1))) (h : L2 = L ++ [x]) (hx : l[m]? = some x) : L2 = l.reverse.take (l.length - m) := by
  have e : l.length - m = (l.length - (m + 1)) + 1 := by omega
  rw [h, hL, e, List.take_add_one, List.getElem?_reverse (by omega)]
  have e2 : l.length - 1 - (l.length - (m + 1)) = m := by omega
  rw [e2, hx]; rfl
end Go.Proofs.YtbnjaaegbmhopaaGreatDoor
end
section
/- Features: EqualFeatures and EqualSources of the model. -/
namespace Go.Proofs.YtbnjaaegbmhopaaGreatDoor
open Go.ChangeShapes Go.WideShapes Go.ChangeAt Go.RowKit
set_option linter.unusedVariables false

instance decName (a b : ByteArray) : Decidable (a = b) := if h : a.data = b.data then .isTrue (by cases a; cases b; simp_all) else .isFalse (fun e => h (by rw [e]))
instance decFeat (f g : Feat) : Decidable (f = g) :=
  if h : f.1 = g.1 ∧ f.2.1 = g.2.1 ∧ f.2.2.1 = g.2.2.1 ∧ f.2.2.2.1 = g.2.2.2.1 ∧ f.2.2.2.2 = g.2.2.2.2 then .isTrue (by
    obtain ⟨f0, f1, f2, f3, f4⟩ := f
    obtain ⟨g0, g1, g2, g3, g4⟩ := g
    obtain ⟨h0, h1, h2, h3, h4⟩ := h
    dsimp only at h0 h1 h2 h3 h4
    rw [h0, h1, h2, h3, h4])
  else .isFalse (fun e => h (by rw [e]; exact ⟨rfl, rfl, rfl, rfl, rfl⟩))
instance decFeats : DecidableEq (List Feat) := @instDecidableEqList Feat decFeat
theorem str_ne {s s' : ByteArray} (h : ¬ s = s') : (s.toList == s'.toList) = false := by
  rw [ByteArray.toList_eq, ByteArray.toList_eq, beq_eq_false_iff_ne]
  intro e
  apply h
  obtain ⟨d⟩ := s
  obtain ⟨d'⟩ := s'
  have : d = d' := Array.toList_inj.1 e
  rw [this]
/-- Features whose points are few. -/
def FewQ (l : List Feat) : Prop := ∀ (j : Nat) (f : Feat), l[j]? = some f → f.2.2.2.2.length ≤ 1099511627776
theorem eqL_no {l l' : List Feat} {j : Nat} {f g : Feat} (hf : l[j]? = some f) (hg : l'[j]? = some g) (h : ¬ f = g) : ¬ l = l' := fun e => by
  subst e
  rw [hf] at hg
  exact h (Option.some.inj hg)
end Go.Proofs.YtbnjaaegbmhopaaGreatDoor
end
section
/- Features: IsName, FindFeature, EqualFeatures, EqualSources of package impl. -/
namespace Go.Proofs.YtbnjaaegbmhopaaGreatDoor
open Go.ChangeShapes Go.WideShapes Go.ChangeAt Go.RowKit
set_option linter.unusedVariables false

theorem all_no {s : ByteArray} {k : Nat} (h : k < s.size) (hc : s[k].toNat < 97 ∨ 122 < s[k].toNat) : s.data.toList.all lowB = false := by
  rw [List.all_eq_false]
  refine ⟨s[k], name_mem s k h, ?_⟩
  simp only [lowB, Bool.and_eq_true, decide_eq_true_eq]
  omega
theorem all_end {s : ByteArray} (h : ∀ c ∈ s.data.toList.take s.size, lowB c = true) : s.data.toList.all lowB = true := by
  have hl : s.data.toList.length = s.size := Array.length_toList
  rw [← hl, List.take_length] at h
  exact List.all_eq_true.2 h
set_option maxRecDepth 100000 in
theorem areLetters_is (s : ByteArray) (z : Bool) (w : World) (hz : s.data.toList.all lowB = z) :
    Calls Tryz.prog 135 #[.string s] w fun e w' => e = .returned (.bool z) ∧ Below w.heap.size w w' := by
  have HZ := Lib.hid hz
  clear hz
  have HB := Lib.hid (fun p : Nat => (show Below w.heap.size w (w.iter s p) from (Below.refl _ _).alloc (Nat.le_refl _) _))
  go_enter Tryz.func135, Tryz.ntmps135
  go_wp2
  go_loopg [] s.size (fun g wr => ∃ pos : Nat, pos + g = s.size ∧ wr = w.iter s pos ∧ Hid (∀ c ∈ s.data.toList.take pos, lowB c = true))
  case atStart => exact ⟨0, by omega, rfl, Lib.hid (by simp)⟩
  case round =>
    obtain ⟨pos, hg, rfl, HT⟩ := hrel
    by_cases hp : pos < s.size
    · by_cases ha : (s[pos]'hp).toNat < 128
      · have hnx : ∀ ty, (Instr.next (.pointer (some ⟨w.heap.size, 0, none⟩)) true ty).run Tryz.prog (w.iter s pos) = _ := fun ty => run_next_ascii w s pos ty hp ha
        by_cases h1 : (s[pos]'hp).toNat < 97
        · have h1' : (((s[pos]'hp).toNat : Nat) : Int) < 97 := by omega
          obtain rfl : false = z := (all_no hp (.inl h1)).symm.trans HZ.out
          clear h1
          go_wp2
          go_ret
          exact ⟨rfl, HB.out _⟩
        · have h1' : ¬ (((s[pos]'hp).toNat : Nat) : Int) < 97 := by omega
          by_cases h2 : 122 < (s[pos]'hp).toNat
          · have h2' : (122 : Int) < (((s[pos]'hp).toNat : Nat) : Int) := by omega
            obtain rfl : false = z := (all_no hp (.inr h2)).symm.trans HZ.out
            clear h1 h2
            go_wp2
            go_ret
            exact ⟨rfl, HB.out _⟩
          · have h2' : ¬ (122 : Int) < (((s[pos]'hp).toNat : Nat) : Int) := by omega
            have HN := Lib.hid (name_step hp HT.out (by omega) (by omega))
            clear h1 h2
            go_wp2
            go_roundg (s.size - (pos + 1))
            case measure => omega
            case rel => exact ⟨pos + 1, by omega, rfl, HN⟩
      · have hnx : ∀ ty, (Instr.next (.pointer (some ⟨w.heap.size, 0, none⟩)) true ty).run Tryz.prog (w.iter s pos) = _ := fun ty => run_next_any w s pos ty hp
        have hd := (decode_high s pos hp (by omega)).1
        have hd2 := decode_le s pos
        obtain rfl : false = z := (all_no hp (.inr (by omega))).symm.trans HZ.out
        obtain ⟨r, hr⟩ : ∃ r, (Utf8.decode s pos).1 = r := ⟨_, rfl⟩
        rw [hr] at hd hd2 hnx
        have h1' : ¬ ((r : Nat) : Int) < 97 := by omega
        have h2' : (122 : Int) < ((r : Nat) : Int) := by omega
        clear hr
        go_wp2
        go_ret
        exact ⟨rfl, HB.out _⟩
    · have hnx : ∀ ty, (Instr.next (.pointer (some ⟨w.heap.size, 0, none⟩)) true ty).run Tryz.prog (w.iter s pos) = _ := fun ty => run_next_end w s pos ty hp
      obtain rfl : pos = s.size := by omega
      obtain rfl : true = z := (all_end HT.out).symm.trans HZ.out
      go_wp2
      go_ret
      exact ⟨rfl, HB.out _⟩
set_option maxRecDepth 100000 in
theorem isName_is (s : ByteArray) (z : Bool) (w : World) (hm : s.size ≤ maxLen) (hz : nameV s = z) :
    Calls Tryz.prog 99 #[.string s] w fun e w' => e = .returned (.bool z) ∧ Below w.heap.size w w' := by
  unfold maxLen at hm
  obtain ⟨p, hp⟩ : ∃ p, inB (s.size : Int) 1 8 = p := ⟨_, rfl⟩
  obtain ⟨q, hq⟩ : ∃ q, s.data.toList.all lowB = q := ⟨_, rfl⟩
  obtain rfl : (p && q) = z := by rw [← hz, ← hp, ← hq]; simp [nameV, Bool.and_comm]
  have HP := Lib.hid hp
  have HQ := Lib.hid hq
  clear hp hq hz
  go_enter Tryz.func99, Tryz.ntmps99
  cases p
  all_goals
    go_wp2_with (first
      | (go_at_call 48; refine (in_is _ _ _ _ _ HP.out).mono ?_; rintro e w1 ⟨rfl, rfl⟩)
      | (go_at_call 135; refine (areLetters_is s q _ HQ.out).mono ?_; rintro e w1 ⟨rfl, hb1⟩))
    go_ret
    first | exact ⟨rfl, hb1⟩ | exact ⟨rfl, Below.refl _ _⟩
end Go.Proofs.YtbnjaaegbmhopaaGreatDoor
end
section
/- Lines: IsSimple of package impl, over meetInTurn. -/
namespace Go.Proofs.YtbnjaaegbmhopaaGreatDoor
open Go.ChangeShapes Go.WideShapes Go.ChangeAt Go.RowKit
set_option linter.unusedVariables false

theorem smp_turn (l : List (Int × Int)) : smpV l = (turnV false (sgV l) && isLn l) := by
  unfold smpV turnV
  congr 1
  refine decide_eq_decide.2 ⟨fun h k hk i hi => ?_, fun h k hk i hi => ?_⟩
  · have := h k hk i hi
    obtain ⟨u, hu⟩ : ∃ u, (sgV l)[i]? = some u := ⟨_, List.getElem?_eq_getElem (by omega)⟩
    obtain ⟨v, hv⟩ : ∃ v, (sgV l)[k]? = some v := ⟨_, List.getElem?_eq_getElem hk⟩
    rw [mtOk_at hu hv] at this
    rw [prOk_at hu hv, show wantC false (sgV l).length i k = if i + 1 = k then 1 else 0 by unfold wantC; simp]
    exact this
  · have := h k hk i hi
    obtain ⟨u, hu⟩ : ∃ u, (sgV l)[i]? = some u := ⟨_, List.getElem?_eq_getElem (by omega)⟩
    obtain ⟨v, hv⟩ : ∃ v, (sgV l)[k]? = some v := ⟨_, List.getElem?_eq_getElem hk⟩
    rw [prOk_at hu hv, show wantC false (sgV l).length i k = if i + 1 = k then 1 else 0 by unfold wantC; simp] at this
    rw [mtOk_at hu hv]
    exact this
set_option maxRecDepth 100000 in
set_option maxHeartbeats 4000000 in
theorem isSimple_is (A : Option Addr) (c : Nat) (l : List (Int × Int)) (w : World) (hs : SeesE 2 encPoint w w.heap.size A l) (hl : l.length ≤ 1099511627776) (z : Bool) (hz : smpV l = z) :
    Calls Tryz.prog 202 #[.slice A l.length c] w fun e w' => e = .returned (.bool z) ∧ Below w.heap.size w w' := by
  have HS := Lib.hid hs; clear hs
  have HZ : Hid ((turnV false (sgV l) && isLn l) = z) := Lib.hid (by rw [← smp_turn]; exact hz)
  clear hz
  go_enter Tryz.func202, Tryz.ntmps202
  cases hi : isLn l
  · obtain rfl : z = false := by rw [← HZ.out, hi, Bool.and_false]
    have h0 : Hid (sgV l = []) := Lib.hid (sgV_no hi)
    go_wp2_with fail
    refine (segmentsOf_any A c l _ HS.out hl).mono ?_
    rintro e w1 ⟨A1, c1, L, hL, rfl, ho1, hb1⟩
    have hn : L.length = 0 := by rw [hL.out, h0.out]; rfl
    have hn2 : ((L.length : Nat) : Int) = 0 := by omega
    have HB1 := Lib.hid hb1
    rw [hn]
    clear ho1 hb1 hn hn2
    go_wp2
    go_ret
    exact ⟨rfl, HB1.out⟩
  · have hz' : turnV false (sgV l) = z := by rw [← HZ.out, hi, Bool.and_true]
    have HT := Lib.hid hz'
    clear hz'
    go_wp2_with fail
    refine (segmentsOf_any A c l _ HS.out hl).mono ?_
    rintro e w1 ⟨A1, c1, L, hL, rfl, ho1, hb1⟩
    have hn : (0 : Int) < (L.length : Int) := by have := sgV_pos hi; rw [← hL.out] at this; omega
    have h9 : L.length ≤ 1000 := by rw [hL.out]; have := sgV_len l; omega
    have HB1 := Lib.hid hb1; have HO1 := Lib.hid ho1
    have HT2 : Hid (turnV false L = z) := Lib.hid (by rw [hL.out]; exact HT.out)
    clear ho1 hb1
    go_wp2_with (go_at_call 78; refine (meetInTurn_is A1 c1 false L _ (HO1.out.sees elSegment) h9 _ HT2.out).mono ?_; rintro e w2 ⟨rfl, hb2⟩)
    go_ret
    exact ⟨by cases z <;> rfl, HB1.out.trans (hb2.mono HB1.out.size)⟩
end Go.Proofs.YtbnjaaegbmhopaaGreatDoor
end
section
/- Features: IsFeature of package impl. -/
namespace Go.Proofs.YtbnjaaegbmhopaaGreatDoor
open Go.ChangeShapes Go.WideShapes Go.ChangeAt Go.RowKit
set_option linter.unusedVariables false

set_option maxRecDepth 100000 in
theorem pointValid_is (A : Option Addr) (c : Nat) (ps : List (Int × Int)) (z : Bool) (w : World) (hs : SeesE 2 encPoint w w.heap.size A ps) (hz : onePt ps = z) :
    Calls Tryz.prog 200 #[.slice A ps.length c] w fun e w' => e = .returned (.bool z) ∧ Below w.heap.size w w' := by
  have HS := Lib.hid hs; have HZ := Lib.hid hz
  clear hs hz
  go_enter Tryz.func200, Tryz.ntmps200
  by_cases hl1 : ps.length = 1
  · obtain ⟨⟨x, y⟩, rfl⟩ : ∃ p, ps = [p] := by
      match ps, hl1 with
      | [p], _ => exact ⟨p, rfl⟩
    obtain ⟨b, off, rfl, -, -⟩ := HS.out 0 _ rfl
    obtain ⟨q0, q1⟩ := cellsPoint0 HS.out rfl
    clear hl1
    go_wp2_with fail
    refine (isPoint_is x y z _ HZ.out).mono ?_
    rintro e w1 ⟨rfl, hb1⟩
    have HB := Lib.hid hb1
    clear hb1
    go_wp2
    go_ret
    exact ⟨rfl, HB.out⟩
  · have hl1' : ¬ (ps.length : Int) = 1 := by omega
    obtain rfl : false = z := (one_no hl1).symm.trans HZ.out
    clear hl1
    go_wp2
    go_ret
    exact ⟨rfl, Below.refl _ _⟩
theorem lineValid_is (A : Option Addr) (c : Nat) (ps : List (Int × Int)) (z : Bool) (w : World) (hs : SeesE 2 encPoint w w.heap.size A ps) (hl : ps.length ≤ 274877906944) (hz : smpV ps = z) :
    Calls Tryz.prog 201 #[.slice A ps.length c] w fun e w' => e = .returned (.bool z) ∧ Below w.heap.size w w' := by
  go_enter Tryz.func201, Tryz.ntmps201
  go_wp2_with fail
  refine (isSimple_is A c ps w hs (by omega) z hz).mono ?_
  rintro e w1 ⟨rfl, hb1⟩
  go_wp2
  go_ret
  exact ⟨rfl, hb1⟩
theorem areaValid_is (a0 : Addr) (A : Option Addr) (c : Nat) (ps : List (Int × Int)) (z : Bool) (w : World) (hE : ErrAt a0 w) (hs : SeesE 2 encPoint w w.heap.size A ps) (hl : ps.length ≤ 274877906944) (hlc : ps.length ≤ c) (hc : (c : Int) ≤ 9223372036854775807) (hz : isRg ps = z) :
    Calls Tryz.prog 203 #[.slice A ps.length c] w fun e w' => e = .returned (.bool z) ∧ Below w.heap.size w w' := by
  go_enter Tryz.func203, Tryz.ntmps203
  go_wp2_with fail
  refine (isRing_is a0 A c ps w hE hs hl hlc hc z hz).mono ?_
  rintro e w1 ⟨rfl, hb1⟩
  go_wp2
  go_ret
  exact ⟨rfl, hb1⟩
theorem noValid_is (z : Bool) (w : World) (hz : false = z) :
    Calls Tryz.prog 204 #[.agg #[]] w fun e w' => e = .returned (.bool z) ∧ Below w.heap.size w w' := by
  subst hz
  go_enter Tryz.func204, Tryz.ntmps204
  go_wp2
  go_ret
  first | exact ⟨rfl, Below.refl _ _⟩ | exact ⟨rfl, (Below.refl _ _).alloc (Nat.le_refl _) _⟩
theorem variantOf_point (a r : Int) (s : ByteArray) (A : Option Addr) (n c : Nat) (w : World) :
    Calls Tryz.prog 100 #[FtV a 1 r s A n c] w fun e w' => e = .returned (.iface 180 (.slice A n c)) ∧ Below w.heap.size w w' := by
  go_enter Tryz.func100, Tryz.ntmps100
  go_wp2
  go_ret
  exact ⟨rfl, (Below.refl _ _).alloc (Nat.le_refl _) _⟩
theorem variantOf_line (a r : Int) (s : ByteArray) (A : Option Addr) (n c : Nat) (w : World) :
    Calls Tryz.prog 100 #[FtV a 2 r s A n c] w fun e w' => e = .returned (.iface 181 (.slice A n c)) ∧ Below w.heap.size w w' := by
  go_enter Tryz.func100, Tryz.ntmps100
  go_wp2
  go_ret
  exact ⟨rfl, (Below.refl _ _).alloc (Nat.le_refl _) _⟩
theorem variantOf_area (a r : Int) (s : ByteArray) (A : Option Addr) (n c : Nat) (w : World) :
    Calls Tryz.prog 100 #[FtV a 3 r s A n c] w fun e w' => e = .returned (.iface 182 (.slice A n c)) ∧ Below w.heap.size w w' := by
  go_enter Tryz.func100, Tryz.ntmps100
  go_wp2
  go_ret
  exact ⟨rfl, (Below.refl _ _).alloc (Nat.le_refl _) _⟩
theorem variantOf_no (a k r : Int) (s : ByteArray) (A : Option Addr) (n c : Nat) (w : World) (e1 : ¬ k = 1) (e2 : ¬ k = 2) (e3 : ¬ k = 3) :
    Calls Tryz.prog 100 #[FtV a k r s A n c] w fun e w' => e = .returned (.iface 184 (.agg #[])) ∧ Below w.heap.size w w' := by
  go_enter Tryz.func100, Tryz.ntmps100
  go_wp2
  go_ret
  exact ⟨rfl, (Below.refl _ _).alloc (Nat.le_refl _) _⟩
set_option maxRecDepth 100000 in
set_option maxHeartbeats 8000000 in
theorem isFeature_is (a0 : Addr) (a k r : Int) (s : ByteArray) (A : Option Addr) (c : Nat) (ps : List (Int × Int)) (z : Bool) (w : World) (hE : ErrAt a0 w) (hs : SeesE 2 encPoint w w.heap.size A ps) (hl : ps.length ≤ 274877906944) (hlc : ps.length ≤ c) (hc : (c : Int) ≤ 9223372036854775807) (hm : s.size ≤ maxLen) (hz : featV (a, k, r, s, ps) = z) :
    Calls Tryz.prog 60 #[FtV a k r s A ps.length c] w fun e w' => e = .returned (.bool z) ∧ Below w.heap.size w w' := by
  have hmpoint : ∀ (v : Value) (w : World), (Go.method 358 180 v "loop.example/g03005/impl.isValid").run Tryz.prog w = .ok (200, v) w := fun _ _ => by kernel_rfl
  have hmline : ∀ (v : Value) (w : World), (Go.method 358 181 v "loop.example/g03005/impl.isValid").run Tryz.prog w = .ok (201, v) w := fun _ _ => by kernel_rfl
  have hmarea : ∀ (v : Value) (w : World), (Go.method 358 182 v "loop.example/g03005/impl.isValid").run Tryz.prog w = .ok (203, v) w := fun _ _ => by kernel_rfl
  have hmno : ∀ (v : Value) (w : World), (Go.method 358 184 v "loop.example/g03005/impl.isValid").run Tryz.prog w = .ok (204, v) w := fun _ _ => by kernel_rfl
  have HV := Lib.hid (Vars.of1 w (FtC a k r s A ps.length c) 41)
  have HS := Lib.hid hs; have HE := Lib.hid hE; have HZ := Lib.hid hz; have HM := Lib.hid hm
  clear hs hE hz hm
  go_enter Tryz.func60, Tryz.ntmps60
  cases h1 : inB a 1 99
  · obtain rfl : false = z := (feat_1 h1).symm.trans HZ.out
    go_wp2_with fail
    refine (in_is _ _ _ false _ h1).mono ?_
    rintro e9 w9 ⟨rfl, rfl⟩
    go_wp2
    go_ret
    exact ⟨rfl, HV.out.1⟩
  cases h2 : inB r 0 9
  · obtain rfl : false = z := (feat_2 h2).symm.trans HZ.out
    go_wp2_with fail
    refine (in_is _ _ _ true _ h1).mono ?_
    rintro e9 w9 ⟨rfl, rfl⟩
    go_wp2_with fail
    refine (in_is _ _ _ false _ h2).mono ?_
    rintro e9 w9 ⟨rfl, rfl⟩
    go_wp2
    go_ret
    exact ⟨rfl, HV.out.1⟩
  obtain ⟨n, hn⟩ : ∃ n, nameV s = n := ⟨_, rfl⟩
  obtain ⟨m, hm⟩ : ∃ m, decide (s.size = 0) = m := ⟨_, rfl⟩
  have he := empty_is s hm
  by_cases hbad : m = false ∧ n = false
  · obtain ⟨rfl, rfl⟩ := hbad
    obtain rfl : false = z := (feat_3 (of_decide_eq_false hm) hn).symm.trans HZ.out
    clear hm
    go_wp2_with fail
    refine (in_is _ _ _ true _ h1).mono ?_
    rintro e9 w9 ⟨rfl, rfl⟩
    go_wp2_with fail
    refine (in_is _ _ _ true _ h2).mono ?_
    rintro e9 w9 ⟨rfl, rfl⟩
    go_wp2_with fail
    refine (isName_is s false _ HM.out hn).mono ?_
    rintro e9 w9 ⟨rfl, hb9⟩
    have HV := Lib.hid (HV.out.next hb9)
    clear hb9
    obtain ⟨k0, k1, k2, k3, k4⟩ := HV.out.c50
    go_wp2
    go_ret
    exact ⟨rfl, HV.out.1⟩
  have HX : Hid (shapeV k ps = z) := Lib.hid (by
    rw [← feat_4 (s := s) h1 h2 ?_]; exact HZ.out
    cases m
    · cases n
      · exact absurd ⟨rfl, rfl⟩ hbad
      · exact .inr hn
    · exact .inl (of_decide_eq_true hm))
  clear HZ
  cases m
  · cases n
    · exact absurd ⟨rfl, rfl⟩ hbad
    clear hm hbad
    by_cases e1 : k = 1
    · subst e1
      rw [shape_1] at HX
      go_wp2_with fail
      refine (in_is _ _ _ true _ h1).mono ?_
      rintro e9 w9 ⟨rfl, rfl⟩
      go_wp2_with fail
      refine (in_is _ _ _ true _ h2).mono ?_
      rintro e9 w9 ⟨rfl, rfl⟩
      go_wp2_with fail
      refine (isName_is s true _ HM.out hn).mono ?_
      rintro e9 w9 ⟨rfl, hb9⟩
      have HV := Lib.hid (HV.out.next hb9)
      clear hb9
      obtain ⟨k0, k1, k2, k3, k4⟩ := HV.out.c50
      go_wp2_with fail
      refine (variantOf_point a r s A ps.length c _).mono ?_
      rintro e9 w9 ⟨rfl, hb9⟩
      have HV := Lib.hid (HV.out.next hb9)
      clear hb9
      obtain ⟨k0, k1, k2, k3, k4⟩ := HV.out.c50
      go_wp2_with fail
      refine (pointValid_is A c ps z _ ((HS.out.below HV.out.1).mono HV.out.1.size) HX.out).mono ?_
      rintro e9 w9 ⟨rfl, hb9⟩
      have HV := Lib.hid (HV.out.next hb9)
      clear hb9
      obtain ⟨k0, k1, k2, k3, k4⟩ := HV.out.c50
      go_wp2
      go_ret
      exact ⟨rfl, HV.out.1⟩
    by_cases e2 : k = 2
    · subst e2
      rw [shape_2] at HX
      go_wp2_with fail
      refine (in_is _ _ _ true _ h1).mono ?_
      rintro e9 w9 ⟨rfl, rfl⟩
      go_wp2_with fail
      refine (in_is _ _ _ true _ h2).mono ?_
      rintro e9 w9 ⟨rfl, rfl⟩
      go_wp2_with fail
      refine (isName_is s true _ HM.out hn).mono ?_
      rintro e9 w9 ⟨rfl, hb9⟩
      have HV := Lib.hid (HV.out.next hb9)
      clear hb9
      obtain ⟨k0, k1, k2, k3, k4⟩ := HV.out.c50
      go_wp2_with fail
      refine (variantOf_line a r s A ps.length c _).mono ?_
      rintro e9 w9 ⟨rfl, hb9⟩
      have HV := Lib.hid (HV.out.next hb9)
      clear hb9
      obtain ⟨k0, k1, k2, k3, k4⟩ := HV.out.c50
      go_wp2_with fail
      refine (lineValid_is A c ps z _ ((HS.out.below HV.out.1).mono HV.out.1.size) hl HX.out).mono ?_
      rintro e9 w9 ⟨rfl, hb9⟩
      have HV := Lib.hid (HV.out.next hb9)
      clear hb9
      obtain ⟨k0, k1, k2, k3, k4⟩ := HV.out.c50
      go_wp2
      go_ret
      exact ⟨rfl, HV.out.1⟩
    by_cases e3 : k = 3
    · subst e3
      rw [shape_3] at HX
      go_wp2_with fail
      refine (in_is _ _ _ true _ h1).mono ?_
      rintro e9 w9 ⟨rfl, rfl⟩
      go_wp2_with fail
      refine (in_is _ _ _ true _ h2).mono ?_
      rintro e9 w9 ⟨rfl, rfl⟩
      go_wp2_with fail
      refine (isName_is s true _ HM.out hn).mono ?_
      rintro e9 w9 ⟨rfl, hb9⟩
      have HV := Lib.hid (HV.out.next hb9)
      clear hb9
      obtain ⟨k0, k1, k2, k3, k4⟩ := HV.out.c50
      go_wp2_with fail
      refine (variantOf_area a r s A ps.length c _).mono ?_
      rintro e9 w9 ⟨rfl, hb9⟩
      have HV := Lib.hid (HV.out.next hb9)
      clear hb9
      obtain ⟨k0, k1, k2, k3, k4⟩ := HV.out.c50
      go_wp2_with fail
      refine (areaValid_is a0 A c ps z _ (HE.out.all HV.out.1) ((HS.out.below HV.out.1).mono HV.out.1.size) hl hlc hc HX.out).mono ?_
      rintro e9 w9 ⟨rfl, hb9⟩
      have HV := Lib.hid (HV.out.next hb9)
      clear hb9
      obtain ⟨k0, k1, k2, k3, k4⟩ := HV.out.c50
      go_wp2
      go_ret
      exact ⟨rfl, HV.out.1⟩
    rw [shape_0 ps e1 e2 e3] at HX
    go_wp2_with fail
    refine (in_is _ _ _ true _ h1).mono ?_
    rintro e9 w9 ⟨rfl, rfl⟩
    go_wp2_with fail
    refine (in_is _ _ _ true _ h2).mono ?_
    rintro e9 w9 ⟨rfl, rfl⟩
    go_wp2_with fail
    refine (isName_is s true _ HM.out hn).mono ?_
    rintro e9 w9 ⟨rfl, hb9⟩
    have HV := Lib.hid (HV.out.next hb9)
    clear hb9
    obtain ⟨k0, k1, k2, k3, k4⟩ := HV.out.c50
    go_wp2_with fail
    refine (variantOf_no a k r s A ps.length c _ e1 e2 e3).mono ?_
    rintro e9 w9 ⟨rfl, hb9⟩
    have HV := Lib.hid (HV.out.next hb9)
    clear hb9
    obtain ⟨k0, k1, k2, k3, k4⟩ := HV.out.c50
    go_wp2_with fail
    refine (noValid_is z _ HX.out).mono ?_
    rintro e9 w9 ⟨rfl, hb9⟩
    have HV := Lib.hid (HV.out.next hb9)
    clear hb9
    obtain ⟨k0, k1, k2, k3, k4⟩ := HV.out.c50
    go_wp2
    go_ret
    exact ⟨rfl, HV.out.1⟩
  · clear hm hbad
    by_cases e1 : k = 1
    · subst e1
      rw [shape_1] at HX
      go_wp2_with fail
      refine (in_is _ _ _ true _ h1).mono ?_
      rintro e9 w9 ⟨rfl, rfl⟩
      go_wp2_with fail
      refine (in_is _ _ _ true _ h2).mono ?_
      rintro e9 w9 ⟨rfl, rfl⟩
      go_wp2_with fail
      refine (variantOf_point a r s A ps.length c _).mono ?_
      rintro e9 w9 ⟨rfl, hb9⟩
      have HV := Lib.hid (HV.out.next hb9)
      clear hb9
      obtain ⟨k0, k1, k2, k3, k4⟩ := HV.out.c50
      go_wp2_with fail
      refine (pointValid_is A c ps z _ ((HS.out.below HV.out.1).mono HV.out.1.size) HX.out).mono ?_
      rintro e9 w9 ⟨rfl, hb9⟩
      have HV := Lib.hid (HV.out.next hb9)
      clear hb9
      obtain ⟨k0, k1, k2, k3, k4⟩ := HV.out.c50
      go_wp2
      go_ret
      exact ⟨rfl, HV.out.1⟩
    by_cases e2 : k = 2
    · subst e2
      rw [shape_2] at HX
      go_wp2_with fail
      refine (in_is _ _ _ true _ h1).mono ?_
      rintro e9 w9 ⟨rfl, rfl⟩
      go_wp2_with fail
      refine (in_is _ _ _ true _ h2).mono ?_
      rintro e9 w9 ⟨rfl, rfl⟩
      go_wp2_with fail
      refine (variantOf_line a r s A ps.length c _).mono ?_
      rintro e9 w9 ⟨rfl, hb9⟩
      have HV := Lib.hid (HV.out.next hb9)
      clear hb9
      obtain ⟨k0, k1, k2, k3, k4⟩ := HV.out.c50
      go_wp2_with fail
      refine (lineValid_is A c ps z _ ((HS.out.below HV.out.1).mono HV.out.1.size) hl HX.out).mono ?_
      rintro e9 w9 ⟨rfl, hb9⟩
      have HV := Lib.hid (HV.out.next hb9)
      clear hb9
      obtain ⟨k0, k1, k2, k3, k4⟩ := HV.out.c50
      go_wp2
      go_ret
      exact ⟨rfl, HV.out.1⟩
    by_cases e3 : k = 3
    · subst e3
      rw [shape_3] at HX
      go_wp2_with fail
      refine (in_is _ _ _ true _ h1).mono ?_
      rintro e9 w9 ⟨rfl, rfl⟩
      go_wp2_with fail
      refine (in_is _ _ _ true _ h2).mono ?_
      rintro e9 w9 ⟨rfl, rfl⟩
      go_wp2_with fail
      refine (variantOf_area a r s A ps.length c _).mono ?_
      rintro e9 w9 ⟨rfl, hb9⟩
      have HV := Lib.hid (HV.out.next hb9)
      clear hb9
      obtain ⟨k0, k1, k2, k3, k4⟩ := HV.out.c50
      go_wp2_with fail
      refine (areaValid_is a0 A c ps z _ (HE.out.all HV.out.1) ((HS.out.below HV.out.1).mono HV.out.1.size) hl hlc hc HX.out).mono ?_
      rintro e9 w9 ⟨rfl, hb9⟩
      have HV := Lib.hid (HV.out.next hb9)
      clear hb9
      obtain ⟨k0, k1, k2, k3, k4⟩ := HV.out.c50
      go_wp2
      go_ret
      exact ⟨rfl, HV.out.1⟩
    rw [shape_0 ps e1 e2 e3] at HX
    go_wp2_with fail
    refine (in_is _ _ _ true _ h1).mono ?_
    rintro e9 w9 ⟨rfl, rfl⟩
    go_wp2_with fail
    refine (in_is _ _ _ true _ h2).mono ?_
    rintro e9 w9 ⟨rfl, rfl⟩
    go_wp2_with fail
    refine (variantOf_no a k r s A ps.length c _ e1 e2 e3).mono ?_
    rintro e9 w9 ⟨rfl, hb9⟩
    have HV := Lib.hid (HV.out.next hb9)
    clear hb9
    obtain ⟨k0, k1, k2, k3, k4⟩ := HV.out.c50
    go_wp2_with fail
    refine (noValid_is z _ HX.out).mono ?_
    rintro e9 w9 ⟨rfl, hb9⟩
    have HV := Lib.hid (HV.out.next hb9)
    clear hb9
    obtain ⟨k0, k1, k2, k3, k4⟩ := HV.out.c50
    go_wp2
    go_ret
    exact ⟨rfl, HV.out.1⟩
end Go.Proofs.YtbnjaaegbmhopaaGreatDoor
end
section
/- PartsOf and FeaturesMeet of package impl. -/
namespace Go.Proofs.YtbnjaaegbmhopaaGreatDoor
open Go.ChangeShapes Go.WideShapes Go.ChangeAt Go.RowKit
set_option linter.unusedVariables false

theorem maxW_is (a b z : Int) (w : World) (hz : extV true a b = z) :
    Calls Tryz.prog 94 #[.int .i64 a, .int .i64 b] w fun e w' => e = .returned (.int .i64 z) ∧ Below w.heap.size w w' := by
  subst hz
  go_enter Tryz.func94, Tryz.ntmps94
  go_wp2_with (go_at_call 128; refine (ext_any _ _ b _ _ (by simp [go_sem])).mono ?_; rintro e w' ⟨rfl, rfl⟩)
  go_ret
  exact ⟨rfl, by repeat (first | exact Below.refl _ _ | apply Below.drew | (refine Below.alloc ?_ (Nat.le_refl _) _))⟩
set_option maxRecDepth 100000 in
set_option maxHeartbeats 1000000 in
theorem partsOf_any (a0 : Addr) (a k r : Int) (s : ByteArray) (A : Option Addr) (c : Nat) (ps : List (Int × Int)) (w : World) (hE : ErrAt a0 w) (hs : SeesE 2 encPoint w w.heap.size A ps) (hl : ps.length ≤ 274877906944) (hlc : ps.length ≤ c) (hc : (c : Int) ≤ 9223372036854775807) (hm : s.size ≤ maxLen) :
    Calls Tryz.prog 28 #[FtV a k r s A ps.length c] w (GivesE 4 encSegment 78 (partsV (a, k, r, s, ps)) w) := by
  have HV := Lib.hid (Vars.of1 w (FtC a k r s A ps.length c) 41)
  have HS := Lib.hid ((hs.below HV.out.1).mono HV.out.1.size)
  have HE := Lib.hid (hE.all HV.out.1)
  clear hs hE
  go_enter Tryz.func28, Tryz.ntmps28
  cases hq : featV (a, k, r, s, ps)
  · have HP := Lib.hid (parts_no hq)
    go_wp2_with fail
    refine (isFeature_is a0 a k r s A c ps _ _ HE.out HS.out hl hlc hc hm hq).mono ?_
    rintro e w1 ⟨rfl, hb1⟩
    have HV := Lib.hid (HV.out.next hb1)
    clear hb1
    go_wp2
    go_ret
    exact ⟨_, _, [], Lib.hid HP.out.symm, rfl, (OwnE.lit w1 w1.heap.size 78 (Nat.le_refl _)).mono HV.out.1.size, HV.out.1.alloc HV.out.1.size _⟩
  · by_cases e2 : k = 2
    · subst e2
      have HP := Lib.hid (parts_2 hq)
      go_wp2_with fail
      refine (isFeature_is a0 a 2 r s A c ps _ _ HE.out HS.out hl hlc hc hm hq).mono ?_
      rintro e w1 ⟨rfl, hb1⟩
      have HS1 := Lib.hid (HS.out.belowAll hb1)
      have HV := Lib.hid (HV.out.next hb1)
      clear hb1
      obtain ⟨k0, k1, k2, k3, k4⟩ := HV.out.c50
      go_wp2_with fail
      refine (segmentsOf_any A c ps _ HS1.out (by omega)).mono ?_
      rintro e w2 ⟨A2, c2, L, hL, rfl, ho2, hb2⟩
      have HO := Lib.hid (ho2.mono HV.out.1.size)
      have HV := Lib.hid (HV.out.next hb2)
      clear ho2 hb2
      go_wp2
      go_ret
      exact ⟨A2, c2, L, Lib.hid (by rw [hL.out, HP.out]), rfl, HO.out, HV.out.1⟩
    by_cases e3 : k = 3
    · subst e3
      have HP := Lib.hid (parts_3 hq)
      go_wp2_with fail
      refine (isFeature_is a0 a 3 r s A c ps _ _ HE.out HS.out hl hlc hc hm hq).mono ?_
      rintro e w1 ⟨rfl, hb1⟩
      have HS1 := Lib.hid (HS.out.belowAll hb1)
      have HE1 := Lib.hid (HE.out.all hb1)
      have HV := Lib.hid (HV.out.next hb1)
      clear hb1
      obtain ⟨k0, k1, k2, k3, k4⟩ := HV.out.c50
      go_wp2_with fail
      refine (ringSegments_any a0 A c ps _ HE1.out HS1.out hl hlc hc).mono ?_
      rintro e w2 ⟨A2, c2, L, hL, rfl, ho2, hb2⟩
      have HO := Lib.hid (ho2.mono HV.out.1.size)
      have HV := Lib.hid (HV.out.next hb2)
      clear ho2 hb2
      go_wp2
      go_ret
      exact ⟨A2, c2, L, Lib.hid (by rw [hL.out, HP.out]), rfl, HO.out, HV.out.1⟩
    have HP := Lib.hid (parts_0 (a := a) (r := r) (s := s) (ps := ps) e2 e3)
    go_wp2_with fail
    refine (isFeature_is a0 a k r s A c ps _ _ HE.out HS.out hl hlc hc hm hq).mono ?_
    rintro e w1 ⟨rfl, hb1⟩
    have HV := Lib.hid (HV.out.next hb1)
    clear hb1
    obtain ⟨k0, k1, k2, k3, k4⟩ := HV.out.c50
    go_wp2
    go_ret
    exact ⟨_, _, [], Lib.hid HP.out.symm, rfl, (OwnE.lit w1 w1.heap.size 78 (Nat.le_refl _)).mono HV.out.1.size, HV.out.1.alloc HV.out.1.size _⟩
theorem mxS_st {n : Int} {s : Sg} {T : List Sg} {j : Nat} {x : Sg} (hx : T[j]? = some x) : extV true (mxS n s (T.take j)) (howS s x) = mxS n s (T.take (j + 1)) := by
  rw [List.take_add_one, hx]; exact (mxS_snoc _ _ _ _).symm
theorem mtV_st {S T : List Sg} {i : Nat} {u : Sg} (hu : S[i]? = some u) : mxS (mtV (S.take i) T) u T = mtV (S.take (i + 1)) T := by
  rw [List.take_add_one, hu]; exact (mtV_snoc _ _ _).symm
set_option maxRecDepth 100000 in
set_option maxHeartbeats 4000000 in
theorem greatest_is (A A' : Option Addr) (c c' : Nat) (L L' : List Sg) (z : Int) (w : World) (hs : SeesE 4 encSegment w w.heap.size A L) (hs' : SeesE 4 encSegment w w.heap.size A' L') (hl : L.length ≤ 1000) (hl' : L'.length ≤ 1000) (hz : mtV L L' = z) :
    Calls Tryz.prog 56 #[.slice A L.length c, .slice A' L'.length c'] w fun e w' => e = .returned (.int .i64 z) ∧ Below w.heap.size w w' := by
  have HS := Lib.hid hs; have HS' := Lib.hid hs'; have HZ := Lib.hid hz
  clear hs hs' hz
  go_enter Tryz.func56, Tryz.ntmps56
  go_wp2
  go_loopw [5, 12] (fun n i wr => ∃ j : Nat, j ≤ L.length ∧ n = .int .i64 (mtV (L.take j) L') ∧ i = .int .i64 j ∧ Hid (Below w.heap.size w wr)) (fun _ i _ => L.length - (intOf i).toNat)
  case atStart => exact ⟨0, Nat.zero_le _, rfl, rfl, Lib.hid (Below.refl _ _)⟩
  case round =>
    obtain ⟨i, hi, rfl, rfl, HB⟩ := hrel
    by_cases hlt : i < L.length
    · have hli : (i : Int) < (L.length : Int) := by omega
      obtain ⟨b, off, u, rfl, hbl, hu, -⟩ := (HS.out.below HB.out).lt hlt
      obtain ⟨k0, k1, k2, k3⟩ := cells4 (HS.out.below HB.out) hu
      obtain ⟨N, hN⟩ : ∃ N, mtV (L.take i) L' = N := ⟨_, rfl⟩
      have HT : Hid (mxS N u L' = mtV (L.take (i + 1)) L') := Lib.hid (by rw [← hN]; exact mtV_st hu)
      rw [hN]
      have HB1 := Lib.hid (HB.out.alloc HB.out.size (.cells (sC u) 78))
      have HU := Lib.hid (OneV.new (m := 0) wr (Nat.zero_le _) (sC u) 78)
      clear hu hN
      go_wp2
      go_loopw [5, 18] (fun n k wx => ∃ j : Nat, j ≤ L'.length ∧ n = .int .i64 (mxS N u (L'.take j)) ∧ k = .int .i64 j ∧ Hid (OneV 0 wx wr.heap.size (sC u)) ∧ Hid (Below w.heap.size w wx)) (fun _ k _ => L'.length - (intOf k).toNat)
      case atStart => exact ⟨0, Nat.zero_le _, rfl, rfl, HU, HB1⟩
      case round =>
        obtain ⟨j, hj, rfl, rfl, HU2, HB2⟩ := hrel
        by_cases hlj : j < L'.length
        · have hlj' : (j : Int) < (L'.length : Int) := by omega
          obtain ⟨b', off', v, rfl, hbl', hv, -⟩ := (HS'.out.below HB2.out).lt hlj
          obtain ⟨k4, k5, k6, k7⟩ := cells4 (HS'.out.below HB2.out) hv
          obtain ⟨M, hM⟩ : ∃ M, mxS N u (L'.take j) = M := ⟨_, rfl⟩
          obtain ⟨m, hm⟩ : ∃ m, howS u v = m := ⟨_, rfl⟩
          have HX : Hid (extV true M m = mxS N u (L'.take (j + 1))) := Lib.hid (by rw [← hM, ← hm]; exact mxS_st hv)
          rw [hM]
          obtain ⟨x, hx⟩ : ∃ x, extV true M m = x := ⟨_, rfl⟩
          rw [hx] at HX
          have HU3 := Lib.hid (HU2.out.al (.cells (sC v) 78))
          have HB3 := Lib.hid (HB2.out.alloc HB2.out.size (.cells (sC v) 78))
          obtain ⟨q0, q1, q2, q3⟩ := HU3.out.c4
          clear hv hM
          go_wp2_with (first
            | (go_at_call 95; refine (howS_is u v _ _ hm).mono ?_; rintro e w9 ⟨rfl, hb9⟩; have HB9 := Lib.hid (HB3.out.trans (hb9.mono HB3.out.size)); have HU9 := Lib.hid (HU3.out.next hb9))
            | (go_at_call 94; refine (maxW_is M m x _ hx).mono ?_; rintro e w8 ⟨rfl, hb8⟩; have HB8 := Lib.hid (HB9.out.trans (hb8.mono HB9.out.size)); have HU8 := Lib.hid (HU9.out.next hb8)) | fail)
          go_roundw
          case rel => exact ⟨j + 1, by omega, by rw [← HX.out], by go_num, HU8, HB8⟩
          case measure => simp [intOf]; omega
        · obtain rfl : j = L'.length := by omega
          rw [List.take_length]
          go_wp2
          go_roundw
          case rel => exact ⟨i + 1, by omega, by rw [← HT.out], by go_num, HB2⟩
          case measure => simp [intOf]; omega
    · obtain rfl : i = L.length := by omega
      rw [List.take_length]
      go_wp2
      go_ret
      exact ⟨by rw [← HZ.out]; rfl, HB.out⟩
set_option maxRecDepth 100000 in
set_option maxHeartbeats 4000000 in
theorem featuresMeet_is (a0 : Addr) (a k r : Int) (s : ByteArray) (A : Option Addr) (c : Nat) (ps : List (Int × Int)) (a' k' r' : Int) (s' : ByteArray) (A' : Option Addr) (c' : Nat) (ps' : List (Int × Int)) (z : Int) (w : World) (hE : ErrAt a0 w)
    (hs : SeesE 2 encPoint w w.heap.size A ps) (hl : ps.length ≤ 274877906944) (hlc : ps.length ≤ c) (hc : (c : Int) ≤ 9223372036854775807) (hm : s.size ≤ maxLen)
    (hs' : SeesE 2 encPoint w w.heap.size A' ps') (hl' : ps'.length ≤ 274877906944) (hlc' : ps'.length ≤ c') (hc' : (c' : Int) ≤ 9223372036854775807) (hm' : s'.size ≤ maxLen) (hz : meetF (a, k, r, s, ps) (a', k', r', s', ps') = z) :
    Calls Tryz.prog 19 #[FtV a k r s A ps.length c, FtV a' k' r' s' A' ps'.length c'] w fun e w' => e = .returned (.int .i64 z) ∧ Below w.heap.size w w' := by
  have HV := Lib.hid ((Vars.of2 w (FtC a k r s A ps.length c) (FtC a' k' r' s' A' ps'.length c') 41 41).drew)
  have HQ : Hid (∀ W, Vars w W [FtC a k r s A ps.length c, FtC a' k' r' s' A' ps'.length c'] → (W.cell? ⟨w.heap.size, 0, none⟩ = some (.int .i64 a) ∧ W.cell? ⟨w.heap.size, 1, none⟩ = some (.int .i64 k) ∧ W.cell? ⟨w.heap.size, 2, none⟩ = some (.int .i64 r) ∧ W.cell? ⟨w.heap.size, 3, none⟩ = some (.string s) ∧ W.cell? ⟨w.heap.size, 4, none⟩ = some (.slice A ps.length c)) ∧
      (W.cell? ⟨w.heap.size + 1, 0, none⟩ = some (.int .i64 a') ∧ W.cell? ⟨w.heap.size + 1, 1, none⟩ = some (.int .i64 k') ∧ W.cell? ⟨w.heap.size + 1, 2, none⟩ = some (.int .i64 r') ∧ W.cell? ⟨w.heap.size + 1, 3, none⟩ = some (.string s') ∧ W.cell? ⟨w.heap.size + 1, 4, none⟩ = some (.slice A' ps'.length c'))) := Lib.hid fun W hW => ⟨hW.c50, hW.cell _ 1 0 rfl rfl rfl, hW.cell _ 1 1 rfl rfl rfl, hW.cell _ 1 2 rfl rfl rfl, hW.cell _ 1 3 rfl rfl rfl, hW.cell _ 1 4 rfl rfl rfl⟩
  have HS := Lib.hid ((hs.below HV.out.1).mono HV.out.1.size)
  have HS' := Lib.hid ((hs'.below HV.out.1).mono HV.out.1.size)
  have HE := Lib.hid (hE.all HV.out.1)
  have HZ := Lib.hid hz
  have HQ0 := Lib.hid (HQ.out _ (Vars.of2 w (FtC a k r s A ps.length c) (FtC a' k' r' s' A' ps'.length c') 41 41))
  have HQd := Lib.hid (HQ.out _ HV.out)
  clear hs hs' hE hz
  go_enter Tryz.func19, Tryz.ntmps19
  go_upto_region 1 with fail
  go_region_held3 (fun w' => (w'.cell? ⟨w.heap.size, 0, none⟩ = some (.int .i64 a) ∧ w'.cell? ⟨w.heap.size, 1, none⟩ = some (.int .i64 k) ∧ w'.cell? ⟨w.heap.size, 2, none⟩ = some (.int .i64 r) ∧ w'.cell? ⟨w.heap.size, 3, none⟩ = some (.string s) ∧ w'.cell? ⟨w.heap.size, 4, none⟩ = some (.slice A ps.length c)) ∧
      (w'.cell? ⟨w.heap.size + 1, 0, none⟩ = some (.int .i64 a') ∧ w'.cell? ⟨w.heap.size + 1, 1, none⟩ = some (.int .i64 k') ∧ w'.cell? ⟨w.heap.size + 1, 2, none⟩ = some (.int .i64 r') ∧ w'.cell? ⟨w.heap.size + 1, 3, none⟩ = some (.string s') ∧ w'.cell? ⟨w.heap.size + 1, 4, none⟩ = some (.slice A' ps'.length c')))
    (first | with_reducible exact HQ0.out | with_reducible exact HQd.out | with_reducible exact hQ1.out | with_reducible exact hQ2.out | with_reducible exact hQ3.out) (first
    | (go_at_call 56; (with_reducible refine (greatest_is A1 A2 c1 c2 L1 L2 z _ (HO1.out.sees elSegment) (HO2.out.sees elSegment) H1 H2 HZ2.out).mono ?_); rintro e w3 ⟨rfl, hb3⟩; have HV3 := Lib.hid (HV2.out.next hb3); have hQ3 := Lib.hid (HQ.out _ HV3.out))
    | (go_at_call 28; (with_reducible refine (partsOf_any a0 a' k' r' s' A' c' ps' _ HE1.out HS1.out hl' hlc' hc' hm').mono ?_); rintro e w2 ⟨A2, c2, L2, hL2, rfl, ho2, hb2⟩; have HV2 := Lib.hid (HV1.out.next hb2); have HO1 := Lib.hid (HO1.out.belowAll hb2); have HO2 := Lib.hid ho2; have hQ2 := Lib.hid (HQ.out _ HV2.out); have H2 : L2.length ≤ 1000 := (by rw [hL2.out]; exact Nat.le_trans (parts_len _) (by decide)); have HZ2 : Hid (mtV L1 L2 = z) := Lib.hid (by rw [hL1.out, hL2.out]; exact HZ.out))
    | (go_at_call 28; (with_reducible refine (partsOf_any a0 a k r s A c ps _ HE.out HS.out hl hlc hc hm).mono ?_); rintro e w1 ⟨A1, c1, L1, hL1, rfl, ho1, hb1⟩; have HV1 := Lib.hid (HV.out.next hb1); have HS1 := Lib.hid (HS'.out.belowAll hb1); have HE1 := Lib.hid (HE.out.all hb1); have HO1 := Lib.hid ho1; have hQ1 := Lib.hid (HQ.out _ HV1.out); have H1 : L1.length ≤ 1000 := (by rw [hL1.out]; exact Nat.le_trans (parts_len _) (by decide)))
    | fail)
  all_goals
    go_wp2
    go_ret
    exact ⟨rfl, HV3.out.1⟩
end Go.Proofs.YtbnjaaegbmhopaaGreatDoor
end
section
/- Features in memory: a slice of features that the call owns, with the rows of their points. -/
namespace Go.Proofs.YtbnjaaegbmhopaaGreatDoor
open Go.ChangeShapes Go.WideShapes Go.ChangeAt Go.RowKit
set_option linter.unusedVariables false

/-- The slice of a feature's points. -/
def slF (x : FCel) : Value := .slice x.2.2.2.2.1 x.2.2.2.2.2.1 x.2.2.2.2.2.2
def Shal (x : FCel) (f : Feat) : Prop := x.1 = f.1 ∧ x.2.1 = f.2.1 ∧ x.2.2.1 = f.2.2.1 ∧ x.2.2.2.1 = f.2.2.2.1
/-- No two rows of points in one block. -/
def ApartF (xs : List FCel) : Prop := ∀ (i j : Nat) x y b, i ≠ j → xs[i]? = some x → xs[j]? = some y → (slF x).ownBlock = some b → (slF y).ownBlock ≠ some b
/-- The rows of points of features that lie in v. -/
def RowsF (w : World) (B : Nat) (v : Value) (xs : List FCel) (l : List Feat) : Prop :=
  xs.length = l.length ∧ ApartF xs ∧ ∀ (j : Nat) x f, xs[j]? = some x → l[j]? = some f → Shal x f ∧ OwnE 2 encPoint w B 33 (slF x) f.2.2.2.2 ∧ ∀ b, (slF x).ownBlock = some b → v.ownBlock ≠ some b
/-- The call owns a slice of features, from block B on. -/
def OwnF (w : World) (B : Nat) (v : Value) (l : List Feat) : Prop := ∃ xs, OwnE 5 encF w B 41 v xs ∧ RowsF w B v xs l
section
variable {w w' w0 : World} {B C : Nat} {v v' : Value} {A : Option Addr} {m c : Nat} {xs ys : List FCel} {l l2 : List Feat} {x : FCel} {f : Feat}
theorem RowsF.len (h : RowsF w B v xs l) : xs.length = l.length := h.1
theorem OwnF.form (h : OwnF w B v l) : ∃ A c, v = .slice A l.length c ∧ c ≤ maxLen ∧ l.length ≤ c := by
  obtain ⟨xs, h1, h2⟩ := h
  obtain ⟨A, c, hv, hc, hl⟩ := h1.form
  rw [h2.1] at hv hl
  exact ⟨A, c, hv, hc, hl⟩
theorem OwnF.lt (h : OwnF w B v l) : ∀ g, v.ownBlock = some g → B ≤ g ∧ g < w.heap.size := by
  obtain ⟨xs, h1, _⟩ := h; exact h1.lt
theorem own_caps {α : Type} {n : Nat} {enc : α → List Value} {e : TypeId} {L : List α} (h : OwnE n enc w B e (.slice A m c) L) : m = L.length ∧ L.length ≤ c ∧ (c : Int) ≤ 9223372036854775807 := by
  obtain ⟨A', c', hv, hc, hl⟩ := h.form
  simp only [Value.slice.injEq] at hv
  unfold maxLen at hc
  omega
theorem own_capsF (h : OwnF w B (.slice A m c) l) : l.length ≤ c ∧ (c : Int) ≤ 9223372036854775807 := by
  obtain ⟨xs, h1, h2⟩ := h
  have := own_caps h1
  rw [← h2.1]
  exact this.2
theorem OwnF.sees (h : OwnF w B (.slice A m c) l) : SeesF w w.heap.size A l := by
  obtain ⟨xs, h1, h2, h3, h4⟩ := h
  refine ⟨xs, h2, h1.sees elF, fun j x f hx hf => ?_⟩
  obtain ⟨⟨e1, e2, e3, e4⟩, ho, _⟩ := h4 j x f hx hf
  have hc := own_caps ho
  exact ⟨e1, e2, e3, e4, hc.1, ho.sees elPoint, hc.2⟩
theorem RowsF.belowAll (h : RowsF w B v xs l) (hb : Below w.heap.size w w') : RowsF w' B v xs l :=
  ⟨h.1, h.2.1, fun j x f hx hf => by obtain ⟨h1, h2, h3⟩ := h.2.2 j x f hx hf; exact ⟨h1, h2.belowAll hb, h3⟩⟩
theorem OwnF.belowAll (h : OwnF w B v l) (hb : Below w.heap.size w w') : OwnF w' B v l := by
  obtain ⟨xs, h1, h2⟩ := h
  exact ⟨xs, h1.belowAll hb, h2.belowAll hb⟩
theorem OwnF.alloc (h : OwnF w B v l) (o : Obj) : OwnF (w.alloc o) B v l := h.belowAll ((Below.refl _ _).alloc (Nat.le_refl _) o)
theorem OwnF.drew (h : OwnF w B v l) : OwnF w.drew B v l := h.belowAll (Below.refl _ _).drew
theorem RowsF.mono (h : RowsF w B v xs l) (hC : C ≤ B) : RowsF w C v xs l :=
  ⟨h.1, h.2.1, fun j x f hx hf => by obtain ⟨h1, h2, h3⟩ := h.2.2 j x f hx hf; exact ⟨h1, h2.mono hC, h3⟩⟩
theorem OwnF.mono (h : OwnF w B v l) (hC : C ≤ B) : OwnF w C v l := by
  obtain ⟨xs, h1, h2⟩ := h
  exact ⟨xs, h1.mono hC, h2.mono hC⟩
theorem OwnF.lit (w : World) (B : Nat) (hB : B ≤ w.heap.size) : OwnF (w.alloc (.cells #[] 41)) B (.slice (some ⟨w.heap.size, 0, none⟩) 0 0) [] :=
  ⟨[], OwnE.lit w B _ hB, rfl, fun i j x y b _ hx => by simp at hx, fun j x f hx => by simp at hx⟩
/-- The rows behind the row of the slice: it grows, and they stay. -/
theorem RowsF.grown (h : RowsF w B v xs l) (hg : w.grownBy w' v.ownBlock) (hv : v'.ownBlock = v.ownBlock ∨ v'.ownBlock = some w.heap.size) : RowsF w' B v' xs l := by
  refine ⟨h.1, h.2.1, fun j x f hx hf => ?_⟩
  obtain ⟨h1, h2, h3⟩ := h.2.2 j x f hx hf
  refine ⟨h1, h2.kept hg ?_, fun b hb he => ?_⟩
  · match hs : (slF x).ownBlock with
    | none => exact .inl rfl
    | some b => exact .inr fun e => h3 b hs e.symm
  · rcases hv with hv | hv
    · rw [hv] at he; exact h3 b hb he
    · rw [hv] at he
      have := (h2.lt b hb).2
      simp only [Option.some.injEq] at he
      omega
/-- Two lists of features side by side: the second one's rows lie behind the first one's. -/
theorem RowsF.app (h : RowsF w B v xs l) (h2 : RowsF w B v ys l2) (hs : ∀ (i j : Nat) x y b, xs[i]? = some x → ys[j]? = some y → (slF x).ownBlock = some b → (slF y).ownBlock ≠ some b) : RowsF w B v (xs ++ ys) (l ++ l2) := by
  refine ⟨by rw [List.length_append, List.length_append, h.1, h2.1], fun i j x y b hij hx hy hb => ?_, fun j x f hx hf => ?_⟩
  · rw [List.getElem?_append] at hx hy
    split at hx
    · split at hy
      · exact h.2.1 i j x y b hij hx hy hb
      · exact hs _ _ x y b hx hy hb
    · split at hy
      · intro e
        exact hs _ _ y x b hy hx e hb
      · exact h2.2.1 _ _ x y b (by omega) hx hy hb
  · rw [List.getElem?_append] at hx hf
    rw [h.1] at hx
    split at hx
    · next hlt => rw [if_pos hlt] at hf; exact h.2.2 _ _ _ hx hf
    · next hlt => rw [if_neg hlt] at hf; exact h2.2.2 _ _ _ hx hf
/-- One feature whose points lie in new memory. -/
theorem rows_one {f : Feat} (ho : OwnE 2 encPoint w B 33 (slF x) f.2.2.2.2) (hb : ∀ b, (slF x).ownBlock = some b → C ≤ b) (hv : ∀ g, v.ownBlock = some g → g < C) (hs : Shal x f) : RowsF w B v [x] [f] := by
  refine ⟨rfl, fun i j x y b hij hx hy => ?_, fun j x' f' hx hf => ?_⟩
  · have h1 := (List.getElem?_eq_some_iff.1 hx).1
    have h2 := (List.getElem?_eq_some_iff.1 hy).1
    simp at h1 h2
    omega
  · match j, hx, hf with
    | 0, hx, hf =>
      simp at hx hf
      subst hx hf
      refine ⟨hs, ho, fun b h1 h2 => ?_⟩
      have := hb b h1
      have := hv b h2
      omega
    | j + 1, hx, hf => simp at hx
/-- What was ahead of C, and what lies behind it. -/
theorem rows_sep (h : RowsF w0 B v xs l) (hC : w0.heap.size ≤ C) (hy : ∀ (j : Nat) y b, ys[j]? = some y → (slF y).ownBlock = some b → C ≤ b) :
    ∀ (i j : Nat) x y b, xs[i]? = some x → ys[j]? = some y → (slF x).ownBlock = some b → (slF y).ownBlock ≠ some b := fun i j x y b hx hy' hb he => by
  obtain ⟨f, hf⟩ : ∃ f, l[i]? = some f := ⟨_, List.getElem?_eq_getElem (by rw [← h.1]; exact (List.getElem?_eq_some_iff.1 hx).1)⟩
  obtain ⟨_, h2, _⟩ := h.2.2 i x f hx hf
  have := (h2.lt b hb).2
  have := hy j y b hy' he
  omega
theorem infoFeature : (Tryz.prog.info? 41).map (fun i => (i.zero, i.size, i.bytes)) = some (some (.agg #[.int .i64 0, .int .i64 0, .int .i64 0, .string ⟨#[]⟩, .slice none 0 0]), 5, 64) := by kernel_rfl
/-- append onto the call's own features. -/
theorem run_appF (w : World) (ty : TypeId) (hown : OwnE 5 encF w B 41 v xs) (hr : RowsF w B v xs l) (C : Nat) (A : Option Addr) (m c : Nat) (hm : m = ys.length) (hs : SeesE 5 encF w C A ys) (hr2 : RowsF w B v ys l2)
    (hsep : ∀ (i j : Nat) x y b, xs[i]? = some x → ys[j]? = some y → (slF x).ownBlock = some b → (slF y).ownBlock ≠ some b) (h63 : l.length + l2.length ≤ 1099511627776) (hbase : B ≤ w.heap.size) :
    ∃ v' w', (Builtin.append_ #[45, 45] ty #[v, .slice A m c]).run Tryz.prog w = .ok v' w' ∧ OwnF w' B v' (l ++ l2) ∧ Below B w w' := by
  obtain ⟨i, hi, hz, h1, h2⟩ := info_parts infoFeature
  obtain ⟨v', w', hrun, q1, q2, q3⟩ := run_appE (P := Tryz.prog) w elF 45 ty 41 i _ 64 Tryz.underlying45 hi hz h1 h2 rfl B v xs hown C A m c ys hm hs (by rw [hr.1, hr2.1]; exact h63) (by decide) hbase
  exact ⟨v', w', hrun, ⟨xs ++ ys, q1, (hr.app hr2 hsep).grown q2 q3⟩, (Below.refl _ _).grown q2 hbase fun g hg => (hown.lt g hg).1⟩
theorem wpList_appF {ops : Array Oper} {rest : List Oper} {o : Oper} {a : Act} {Q : Exit → Act → World → Prop} (w : World) (hgd : o.guard = none) (s x : Operand)
    (ho : o.op = .call { callee := .builtin .append, args := #[s, x], argTypes := #[45, 45] })
    (hv : a.eval s = v) (hown : OwnE 5 encF w B 41 v xs) (hr : RowsF w B v xs l) (C : Nat) (A : Option Addr) (m c : Nat) (hx : a.eval x = .slice A m c) (hm : m = ys.length) (hs : SeesE 5 encF w C A ys) (hr2 : RowsF w B v ys l2)
    (hsep : ∀ (i j : Nat) x y b, xs[i]? = some x → ys[j]? = some y → (slF x).ownBlock = some b → (slF y).ownBlock ≠ some b) (h63 : l.length + l2.length ≤ 1099511627776) (hbase : B ≤ w.heap.size)
    (h : ∀ A' c' L w', Hid (L = l ++ l2) → L.length ≤ l.length + l2.length → l.length + l2.length ≤ L.length → OwnF w' B (.slice A' L.length c') L → Below B w w' → wpList Tryz.prog ops Q rest (a.put o.dst (.slice A' L.length c')) w') :
    wpList Tryz.prog ops Q (o :: rest) a w := by
  refine wpList_plain hgd fun K hK => ?_
  obtain ⟨v', w', hrun, h2, h3⟩ := run_appF w o.type hown hr C A m c hm hs hr2 hsep h63 hbase
  unfold Oper.wp execOp
  simp only [ho, resolve, invoke, builtin, Sem.run_bind, Sem.run_pure, Result.andThen_ok, List.map_toArray, List.map_cons, List.map_nil, hv, hx, hrun]
  obtain ⟨A', c', rfl, _, _⟩ := h2.form
  exact hK _ _ (h A' c' _ w' (Lib.hid rfl) (by simp) (by simp) h2 h3)
/-- One feature, made anew behind world w0, is appended. -/
theorem wpList_appF1 {ops : Array Oper} {rest : List Oper} {o : Oper} {act : Act} {Q : Exit → Act → World → Prop} (w1 : World) (hgd : o.guard = none) (s x : Operand)
    (ho : o.op = .call { callee := .builtin .append, args := #[s, x], argTypes := #[45, 45] })
    (hv : act.eval s = v) (hF : OwnF w0 B v l) (hb : Below w0.heap.size w0 w1) {a k r : Int} {nm : ByteArray} {A1 : Option Addr} {c1 : Nat} {L : List (Int × Int)} (hP : OwnE 2 encPoint w1 w0.heap.size 33 (.slice A1 L.length c1) L)
    (hx : act.eval x = .slice (some ⟨w1.heap.size, 0, none⟩) 1 1) (h63 : l.length + 1 ≤ 1099511627776) (hbase : B ≤ w0.heap.size)
    (h : ∀ A' c' L' w', Hid (L' = l ++ [(a, k, r, nm, L)]) → L'.length ≤ l.length + 1 → l.length + 1 ≤ L'.length → OwnF w' B (.slice A' L'.length c') L' → Below B (w1.alloc (.cells (FtC a k r nm A1 L.length c1) 41)) w' → wpList Tryz.prog ops Q rest (act.put o.dst (.slice A' L'.length c')) w') :
    wpList Tryz.prog ops Q (o :: rest) act (w1.alloc (.cells (FtC a k r nm A1 L.length c1) 41)) := by
  have hF1 := (hF.belowAll hb).alloc (.cells (FtC a k r nm A1 L.length c1) 41)
  have hF0 := hF
  obtain ⟨xs, h1, h2⟩ := hF
  have h1' := (h1.belowAll hb).alloc (.cells (FtC a k r nm A1 L.length c1) 41)
  have h2' := (h2.belowAll hb).belowAll ((Below.refl _ _).alloc (Nat.le_refl _) (.cells (FtC a k r nm A1 L.length c1) 41))
  have hsz := hb.size
  refine wpList_appF (l := l) (l2 := [(a, k, r, nm, L)]) (xs := xs) (ys := [(a, k, r, nm, A1, L.length, c1)]) _ hgd s x ho hv h1' h2' (w1.heap.size + 1) _ 1 1 hx rfl
    (seesE_new elF w1 _ _ _ _ (Nat.lt_succ_self _) rfl)
    (rows_one (C := w0.heap.size) ((hP.mono hbase).alloc _) (fun b hb' => (hP.lt b hb').1) (fun g hg => (hF0.lt g hg).2) ⟨rfl, rfl, rfl, rfl⟩)
    (rows_sep h2 (Nat.le_refl _) (fun j y b hy hb' => ?_)) h63 (by simp; omega) h
  match j, hy with
  | 0, hy => simp at hy; subst hy; exact (hP.lt b hb').1
/-- Rows behind C are none of what lies ahead of it. -/
theorem RowsF.turn {u : Value} {l2 : List Feat} (h : RowsF w C u ys l2) (hv : ∀ g, v.ownBlock = some g → g < C) : RowsF w C v ys l2 :=
  ⟨h.1, h.2.1, fun j x f hx hf => by
    obtain ⟨h1, h2, _⟩ := h.2.2 j x f hx hf
    refine ⟨h1, h2, fun b hb he => ?_⟩
    have := (h2.lt b hb).1
    have := hv b he
    omega⟩
theorem step_appF {o : Oper} {act : Act} {K : Act → World → Prop} {Q : Exit → Act → World → Prop} {l2 : List Feat} (w : World) (s x : Operand)
    (ho : o.op = .call { callee := .builtin .append, args := #[s, x], argTypes := #[45, 45] })
    (hv : act.eval s = v) (hown : OwnE 5 encF w B 41 v xs) (hr : RowsF w B v xs l) (C : Nat) (A : Option Addr) (m c : Nat) (hx : act.eval x = .slice A m c) (hm : m = ys.length) (hs : SeesE 5 encF w C A ys) (hr2 : RowsF w B v ys l2)
    (hsep : ∀ (i j : Nat) x y b, xs[i]? = some x → ys[j]? = some y → (slF x).ownBlock = some b → (slF y).ownBlock ≠ some b) (h63 : l.length + l2.length ≤ 1099511627776) (hbase : B ≤ w.heap.size)
    (h : ∀ A' c' L w', Hid (L = l ++ l2) → L.length ≤ l.length + l2.length → l.length + l2.length ≤ L.length → OwnF w' B (.slice A' L.length c') L → Below B w w' → K (act.put o.dst (.slice A' L.length c')) w') :
    o.wp Tryz.prog act w K Q := by
  obtain ⟨v', w', hrun, h2, h3⟩ := run_appF w o.type hown hr C A m c hm hs hr2 hsep h63 hbase
  unfold Oper.wp execOp
  simp only [ho, resolve, invoke, builtin, Sem.run_bind, Sem.run_pure, Result.andThen_ok, List.map_toArray, List.map_cons, List.map_nil, hv, hx, hrun]
  obtain ⟨A', c', rfl, _, _⟩ := h2.form
  exact h A' c' _ w' (Lib.hid rfl) (by simp) (by simp) h2 h3
/-- One feature, made anew behind world w0, is appended: a step. -/
theorem stepF1 {o : Oper} {act : Act} {K : Act → World → Prop} {Q : Exit → Act → World → Prop} (w1 : World) (s x : Operand)
    (ho : o.op = .call { callee := .builtin .append, args := #[s, x], argTypes := #[45, 45] })
    (hv : act.eval s = v) (hF : OwnF w0 B v l) (hb : Below w0.heap.size w0 w1) {a k r : Int} {nm : ByteArray} {A1 : Option Addr} {c1 : Nat} {L : List (Int × Int)} (hP : OwnE 2 encPoint w1 w0.heap.size 33 (.slice A1 L.length c1) L)
    (hx : act.eval x = .slice (some ⟨w1.heap.size, 0, none⟩) 1 1) (h63 : l.length + 1 ≤ 1099511627776) (hbase : B ≤ w0.heap.size)
    (h : ∀ A' c' L' w', Hid (L' = l ++ [(a, k, r, nm, L)]) → L'.length ≤ l.length + 1 → l.length + 1 ≤ L'.length → OwnF w' B (.slice A' L'.length c') L' → Below B (w1.alloc (.cells (FtC a k r nm A1 L.length c1) 41)) w' → K (act.put o.dst (.slice A' L'.length c')) w') :
    o.wp Tryz.prog act (w1.alloc (.cells (FtC a k r nm A1 L.length c1) 41)) K Q := by
  have hF0 := hF
  obtain ⟨xs, h1, h2⟩ := hF
  have h1' := (h1.belowAll hb).alloc (.cells (FtC a k r nm A1 L.length c1) 41)
  have h2' := (h2.belowAll hb).belowAll ((Below.refl _ _).alloc (Nat.le_refl _) (.cells (FtC a k r nm A1 L.length c1) 41))
  have hsz := hb.size
  refine step_appF (l := l) (l2 := [(a, k, r, nm, L)]) (xs := xs) (ys := [(a, k, r, nm, A1, L.length, c1)]) _ s x ho hv h1' h2' (w1.heap.size + 1) _ 1 1 hx rfl
    (seesE_new elF w1 _ _ _ _ (Nat.lt_succ_self _) rfl)
    (rows_one (C := w0.heap.size) ((hP.mono hbase).alloc _) (fun b hb' => (hP.lt b hb').1) (fun g hg => (hF0.lt g hg).2) ⟨rfl, rfl, rfl, rfl⟩)
    (rows_sep h2 (Nat.le_refl _) (fun j y b hy hb' => ?_)) h63 (by simp; omega) h
  match j, hy with
  | 0, hy => simp at hy; subst hy; exact (hP.lt b hb').1
/-- Features that were made anew behind world w0 are appended: a step. -/
theorem stepF2 {o : Oper} {act : Act} {K : Act → World → Prop} {Q : Exit → Act → World → Prop} {l2 : List Feat} (w1 : World) (s x : Operand)
    (ho : o.op = .call { callee := .builtin .append, args := #[s, x], argTypes := #[45, 45] })
    (hv : act.eval s = v) (hF : OwnF w0 B v l) (hb : Below w0.heap.size w0 w1) (A : Option Addr) (m c : Nat) (hG : OwnF w1 w0.heap.size (.slice A m c) l2)
    (hx : act.eval x = .slice A m c) (h63 : l.length + l2.length ≤ 1099511627776) (hbase : B ≤ w0.heap.size)
    (h : ∀ A' c' L' w', Hid (L' = l ++ l2) → L'.length ≤ l.length + l2.length → l.length + l2.length ≤ L'.length → OwnF w' B (.slice A' L'.length c') L' → Below B w1 w' → K (act.put o.dst (.slice A' L'.length c')) w') :
    o.wp Tryz.prog act w1 K Q := by
  have hF0 := hF
  obtain ⟨xs, h1, h2⟩ := hF
  obtain ⟨ys, g1, g2⟩ := hG
  have hsz := hb.size
  have hm := (own_caps g1).1
  refine step_appF (l := l) (l2 := l2) (xs := xs) (ys := ys) w1 s x ho hv (h1.belowAll hb) (h2.belowAll hb) w1.heap.size A m c hx hm (g1.sees elF) ((g2.turn fun g hg => (hF0.lt g hg).2).mono hbase)
    (rows_sep h2 (Nat.le_refl _) (fun j y b hy hb' => ?_)) h63 (by omega) h
  obtain ⟨f, hf⟩ : ∃ f, l2[j]? = some f := ⟨_, List.getElem?_eq_getElem (by rw [← g2.1]; exact (List.getElem?_eq_some_iff.1 hy).1)⟩
  exact ((g2.2.2 j y f hy hf).2.1.lt b hb').1
end
end Go.Proofs.YtbnjaaegbmhopaaGreatDoor
end
section
/- Features: l9Feature and l9Copy of the model. -/
namespace Go.Proofs.YtbnjaaegbmhopaaGreatDoor
open Go.ChangeShapes Go.WideShapes Go.ChangeAt Go.RowKit
set_option linter.unusedVariables false

theorem Vars.keepB {w0 w w' : World} {l : List (Array Value)} {B : Nat} (h : Vars w0 w l) (hb : Below B w w') (hB : w0.heap.size + l.length ≤ B) : Vars w0 w' l := by
  refine ⟨h.1.trans (hb.mono (by omega)), Nat.le_trans h.2.1 hb.size, fun j x hj => ?_⟩
  have hl : j < l.length := (List.getElem?_eq_some_iff.1 hj).1
  obtain ⟨T, h3⟩ := h.2.2 j x hj
  exact ⟨T, (hb.block _ (by omega)).trans h3⟩
theorem Vars.f50 {w0 w : World} {l : List (Array Value)} {cs : Array Value} (h : Vars w0 w (cs :: l)) (i : Nat) : w.frozen? ⟨w0.heap.size, i, none⟩ = false := h.frozen w0.heap.size 0 i rfl rfl
theorem Vars.f51 {w0 w : World} {l : List (Array Value)} {cs cs' : Array Value} (h : Vars w0 w (cs :: cs' :: l)) : w.frozen? ⟨w0.heap.size + 1, 0, none⟩ = false ∧ w.frozen? ⟨w0.heap.size + 1, 1, none⟩ = false ∧ w.frozen? ⟨w0.heap.size + 1, 2, none⟩ = false ∧ w.frozen? ⟨w0.heap.size + 1, 3, none⟩ = false ∧ w.frozen? ⟨w0.heap.size + 1, 4, none⟩ = false :=
  ⟨h.frozen _ 1 0 rfl rfl, h.frozen _ 1 1 rfl rfl, h.frozen _ 1 2 rfl rfl, h.frozen _ 1 3 rfl rfl, h.frozen _ 1 4 rfl rfl⟩
theorem Vars.c51 {w0 w : World} {l : List (Array Value)} {cs : Array Value} {v0 v1 v2 v3 v4 : Value} (h : Vars w0 w (cs :: #[v0, v1, v2, v3, v4] :: l)) : w.cell? ⟨w0.heap.size + 1, 0, none⟩ = some v0 ∧ w.cell? ⟨w0.heap.size + 1, 1, none⟩ = some v1 ∧ w.cell? ⟨w0.heap.size + 1, 2, none⟩ = some v2 ∧ w.cell? ⟨w0.heap.size + 1, 3, none⟩ = some v3 ∧ w.cell? ⟨w0.heap.size + 1, 4, none⟩ = some v4 := h.c5 _ 1 rfl rfl
/-- A store ahead of what the call owns. -/
theorem OwnE.putO {α : Type} {n : Nat} {enc : α → List Value} {w : World} {B : Nat} {e : TypeId} {v : Value} {L : List α} (h : OwnE n enc w B e v L) {b : Nat} (hb : b < B) (i : Nat) (u : Value) : OwnE n enc (w.setCell ⟨b, i, none⟩ u) B e v L := by
  refine ⟨h.1, ?_⟩
  rcases h.2 with hn | ⟨g, cap, cur, rfl, hB, hg, rest⟩
  · exact .inl hn
  · exact .inr ⟨g, cap, cur, rfl, hB, (Below.heap_setCell _ _ _ _ (by simp; omega)).trans hg, rest⟩
/-- A call gives a feature whose points lie in new memory. -/
def GivesFt (a k r : Int) (s : ByteArray) (ps : List (Int × Int)) (w : World) (e : Ending) (w' : World) : Prop :=
  ∃ A L c, Hid (L = ps) ∧ e = .returned (FtV a k r s A L.length c) ∧ OwnE 2 encPoint w' w.heap.size 33 (.slice A L.length c) L ∧ Below w.heap.size w w'
set_option maxRecDepth 100000 in
set_option maxHeartbeats 1000000 in
theorem sl9Feature_any (a k r : Int) (s : ByteArray) (A : Option Addr) (c : Nat) (ps : List (Int × Int)) (w : World) (hs : SeesE 2 encPoint w w.heap.size A ps) (hl : ps.length ≤ 1099511627776) :
    Calls Tryz.prog 166 #[FtV a k r s A ps.length c] w (GivesFt a k r s ps w) := by
  have HS := Lib.hid hs; clear hs
  have HV0 := Lib.hid (Vars.of2 w (FtC a k r s A ps.length c) (FtC 0 0 0 ⟨#[]⟩ none 0 0) 41 41)
  have HS0 := Lib.hid (HS.out.below HV0.out.1)
  go_enter Tryz.func166, Tryz.ntmps166
  go_upto_region 1 with fail
  generalize hwz : ((w.alloc (.cells (FtC a k r s A ps.length c) 41)).alloc (.cells (FtC 0 0 0 ⟨#[]⟩ none 0 0) 41)) = wz at HV0 HS0 ⊢
  have hz2 : w.heap.size + 2 ≤ wz.heap.size := HV0.out.more2
  clear hwz
  have HVa := Lib.hid (HV0.out.al (.cells #[] 33))
  obtain ⟨k0, k1, k2, k3, k4⟩ := HVa.out.c50
  go_wp2_with (at_builtin; refine appPoint _ rfl _ _ rfl wz.heap.size _ [] rfl (OwnE.lit wz wz.heap.size 33 (Nat.le_refl _)) w.heap.size A ps.length c ps rfl rfl (HS0.out.alloc (by omega) _) (by simp; omega) (by simp) ?_; intro A1 c1 L w1 hL h1 h2 ho hb; have HL : Hid (L = ps) := Lib.hid (by rw [hL.out]; rfl); have HV1 := Lib.hid (HVa.out.keepB hb hz2); have HO := Lib.hid ho; have HB1 := Lib.hid hb; clear h1 h2 ho hb hL; obtain ⟨q0, q1, q2, q3, q4⟩ := HV1.out.c50; obtain ⟨j0, j1, j2, j3, j4⟩ := HV1.out.c51; obtain ⟨f0, f1, f2, f3, f4⟩ := HV1.out.f51; have f5 := HV1.out.f50 4)
  refine bodyPost_ret (v := FtV a k r s A1 L.length c1) (by simp [results, Tryz.results166, go_sem, j0, j1, j2, j3, j4]) rfl ?_
  have hB0 : w.heap.size ≤ wz.heap.size := by omega
  refine ⟨A1, L, c1, HL, rfl, ((((((HO.out.putO (by omega) _ _).putO (by omega) _ _).putO (by omega) _ _).putO (by omega) _ _).putO (by omega) _ _).putO (by omega) _ _).mono hB0, ?_⟩
  exact (((((HV1.out.1.setCell (Nat.le_refl _) _).setCell (by simp) _).setCell (by simp) _).setCell (by simp) _).setCell (by simp) _).setCell (by simp) _
/-- A call gives features of its own. -/
def GivesF (l : List Feat) (w : World) (e : Ending) (w' : World) : Prop :=
  ∃ A L c, Hid (L = l) ∧ e = .returned (.slice A L.length c) ∧ OwnF w' w.heap.size (.slice A L.length c) L ∧ Below w.heap.size w w'
/-- All features' points are few. -/
def FewP (l : List Feat) : Prop := ∀ (j : Nat) (f : Feat), l[j]? = some f → f.2.2.2.2.length ≤ 274877906944
/-- Small enough for a walk: names and points. -/
def SmallF (l : List Feat) : Prop := ∀ (j : Nat) (f : Feat), l[j]? = some f → f.2.2.2.2.length ≤ 274877906944 ∧ f.2.2.2.1.size ≤ maxLen
section
variable {l : List Feat}
theorem SmallF.few (h : SmallF l) : FewP l := fun j f hf => (h j f hf).1
theorem SmallF.take (h : SmallF l) (j : Nat) : SmallF (l.take j) := fun i f hf => by
  rw [List.getElem?_take] at hf
  split at hf
  · exact h i f hf
  · cases hf
theorem SmallF.drop (h : SmallF l) (j : Nat) : SmallF (l.drop j) := fun i f hf => by
  rw [List.getElem?_drop] at hf
  exact h _ f hf
end
set_option maxRecDepth 100000 in
set_option maxHeartbeats 1000000 in
theorem sl9Copy_any (A : Option Addr) (c : Nat) (l : List Feat) (w : World) (hs : SeesF w w.heap.size A l) (hl : l.length ≤ 1099511627776) (hp : FewP l) :
    Calls Tryz.prog 165 #[.slice A l.length c] w (GivesF l w) := by
  have HS := Lib.hid hs; clear hs
  have HP := Lib.hid hp; clear hp
  go_enter Tryz.func165, Tryz.ntmps165
  go_wp2
  go_loopw [3, 4] (fun v iv wr => ∃ (j : Nat) (L : List Feat) (A0 : Option Addr) (c0 : Nat), j ≤ l.length ∧ iv = .int .i64 j ∧ v = .slice A0 L.length c0 ∧ L.length = j ∧ Hid (L = l.take j) ∧ Hid (OwnF wr w.heap.size (.slice A0 L.length c0) L) ∧ Hid (Below w.heap.size w wr)) (fun _ iv _ => l.length - (intOf iv).toNat)
  case atStart => exact ⟨0, [], _, 0, Nat.zero_le _, rfl, rfl, rfl, Lib.hid rfl, Lib.hid (OwnF.lit w w.heap.size (Nat.le_refl _)), Lib.hid ((Below.refl _ _).alloc (Nat.le_refl _) _)⟩
  case round =>
    obtain ⟨j, L, A0, c0, hj, rfl, rfl, hLj, HL, HO, HB⟩ := hrel
    have HLj := Lib.hid hLj
    by_cases hlt : j < l.length
    · have hlt' : (j : Int) < (l.length : Int) := by omega
      obtain ⟨⟨a, k, r, s, ps⟩, hf⟩ : ∃ f, l[j]? = some f := ⟨_, List.getElem?_eq_getElem hlt⟩
      obtain ⟨b, off, A', c', rfl, hb, hss, hcap, q0, q1, q2, q3, q4⟩ := (HS.out.below HB.out).at_ hf
      have HSS := Lib.hid (hss.mono HB.out.size)
      have hpl : ps.length ≤ 274877906944 := HP.out j _ hf
      have HF := Lib.hid hf
      have hL1 : L.length + 1 ≤ 1099511627776 := by omega
      clear hf hss hcap hLj
      go_wp2_with fail
      refine (sl9Feature_any a k r s A' c' ps _ HSS.out (by omega)).mono ?_
      rintro e w1 ⟨A1, P, c1, hP, rfl, ho1, hb1⟩
      have HO1 := Lib.hid ho1
      have HPs := hP
      have HB0 := Lib.hid hb1
      have HB1 := Lib.hid (HB.out.trans (hb1.mono HB.out.size))
      have hbs := HB.out.size
      clear ho1 hb1 hP q0 q1 q2 q3 q4
      go_wp2_with (at_builtin; refine wpList_appF1 (nm := s) (a := a) (k := k) (r := r) w1 rfl _ _ rfl rfl HO.out HB0.out HO1.out rfl hL1 hbs ?_; intro A2 c2 L2 w2 hL2 h1 h2 ho2 hb2)
      go_roundw
      case rel => exact ⟨j + 1, L2, A2, c2, by omega, by go_num, rfl, by have := HLj.out; omega, Lib.hid (by rw [hL2.out, HL.out, HPs.out, List.take_add_one, HF.out]; rfl), Lib.hid ho2, Lib.hid ((HB1.out.alloc HB1.out.size _).trans hb2)⟩
      case measure => simp [intOf]; omega
    · obtain rfl : j = l.length := by omega
      have hlt' : ¬ (l.length : Int) < (l.length : Int) := by omega
      have HE : Hid (L = l) := Lib.hid (by rw [HL.out, List.take_length])
      clear hLj HLj HL
      go_wp2
      go_ret
      exact ⟨A0, L, c0, HE, rfl, HO.out, HB.out⟩
end Go.Proofs.YtbnjaaegbmhopaaGreatDoor
end
section
/- Features: IsSource of package impl. -/
namespace Go.Proofs.YtbnjaaegbmhopaaGreatDoor
open Go.ChangeShapes Go.WideShapes Go.ChangeAt Go.RowKit
set_option linter.unusedVariables false

def isSrcIT : List (Nat × Nat × Nat) := [(0, 16, 16), (1, 17, 32768), (2, 18, 65536), (6, 19, 131072), (8, 20, 262152), (24, 21, 786432), (40, 22, 1310720), (64, 23, 2097153), (64, 24, 2097160), (320, 25, 10485760), (704, 26, 23068672), (1088, 27, 35651584), (2112, 28, 69206016), (64, 29, 2097168), (8256, 30, 270532608), (20544, 31, 673185792), (32840, 32, 1076101120), (65544, 33, 2147745792)]
def isSrcIS : List (Nat × Bool) := [(0, true), (1, false), (2, true), (3, true), (4, true), (5, true), (6, true), (7, true), (8, true), (9, true), (10, true), (11, true), (12, true), (13, true), (14, true), (15, true), (16, true), (17, true)]
set_option maxRecDepth 100000 in
set_option maxHeartbeats 40000000 in
theorem isSource_is (a0 : Addr) (A : Option Addr) (c : Nat) (l : List Feat) (w : World) (hE : ErrAt a0 w) (hs : SeesF w w.heap.size A l) (hl : l.length ≤ 1099511627776) (hp : SmallF l) (z : Bool) (hz : srcV l = z) :
    Calls Tryz.prog 24 #[.slice A l.length c] w fun e w' => e = .returned (.bool z) ∧ Below w.heap.size w w' := by
  have HS := Lib.hid hs; clear hs
  have HE := Lib.hid hE; clear hE
  have HZ := Lib.hid hz; clear hz
  have HPs := Lib.hid hp; clear hp
  go_enter Tryz.func24, Tryz.ntmps24
  by_cases h16 : 16 < l.length
  · have h16' : (16 : Int) < (l.length : Int) := by omega
    obtain rfl : false = z := by
      rw [← HZ.out]
      cases hh : srcV l
      · rfl
      · have := src_len hh; omega
    clear h16
    go_wp2
    go_ret
    exact ⟨rfl, Below.refl _ _⟩
  have h16' : ¬ (16 : Int) < (l.length : Int) := by omega
  have HL16 := Lib.hid (show l.length ≤ 16 by omega)
  clear h16
  go_wp2
  go_loopw [10] (fun i wr => ∃ j : Nat, j ≤ l.length ∧ i = .int .i64 j ∧ Hid (SeenUp l j) ∧ Hid (Below w.heap.size w wr)) (fun i _ => l.length - (intOf i).toNat)
  case atStart => exact ⟨0, Nat.zero_le _, rfl, Lib.hid (seen_zero l), Lib.hid (Below.refl _ _)⟩
  case round =>
    obtain ⟨j, hj, rfl, HU, HB⟩ := hrel
    by_cases hlt : j < l.length
    · obtain ⟨⟨a, kd, rk, s, ps⟩, hf⟩ : ∃ f, l[j]? = some f := ⟨_, List.getElem?_eq_getElem hlt⟩
      obtain ⟨b, off, A', c', rfl, hbl, hss, hcap, hcell⟩ := HS.out.at_ hf
      obtain ⟨q0, q1, q2, q3, q4⟩ : _ ∧ _ ∧ _ ∧ _ ∧ _ := ⟨(HB.out.cell (p := ⟨b, off + j * 5, none⟩) hbl).trans hcell.1, (HB.out.cell (p := ⟨b, off + j * 5 + 1, none⟩) hbl).trans hcell.2.1, (HB.out.cell (p := ⟨b, off + j * 5 + 2, none⟩) hbl).trans hcell.2.2.1, (HB.out.cell (p := ⟨b, off + j * 5 + 3, none⟩) hbl).trans hcell.2.2.2.1, (HB.out.cell (p := ⟨b, off + j * 5 + 4, none⟩) hbl).trans hcell.2.2.2.2⟩
      have HSS := Lib.hid hss
      obtain ⟨hcap1, hcap2⟩ := hcap
      obtain ⟨hpl, hsz⟩ := HPs.out j _ hf
      dsimp only at hpl hsz
      have hji : (j : Int) < (l.length : Int) := by omega
      have HV := Lib.hid ((Vars.of1 wr (FtC a kd rk s A' ps.length c') 41).drew)
      have HF := Lib.hid hf
      clear hss hcell hf
      cases hq : featV (a, kd, rk, s, ps)
      · obtain rfl : false = z := (src_no1 HF.out hq).symm.trans HZ.out
        have HQ : Hid (∀ W, Vars wr W [FtC a kd rk s A' ps.length c'] → (W.cell? ⟨wr.heap.size, 0, none⟩ = some (.int .i64 a) ∧ W.cell? ⟨wr.heap.size, 1, none⟩ = some (.int .i64 kd) ∧ W.cell? ⟨wr.heap.size, 2, none⟩ = some (.int .i64 rk) ∧ W.cell? ⟨wr.heap.size, 3, none⟩ = some (.string s) ∧ W.cell? ⟨wr.heap.size, 4, none⟩ = some (.slice A' ps.length c'))) := Lib.hid fun W hW => hW.c50
        go_upto_region 6 with fail
        refine wp_region_held_drew (S := (fun w' => (w'.cell? ⟨wr.heap.size, 0, none⟩ = some (.int .i64 a) ∧ w'.cell? ⟨wr.heap.size, 1, none⟩ = some (.int .i64 kd) ∧ w'.cell? ⟨wr.heap.size, 2, none⟩ = some (.int .i64 rk) ∧ w'.cell? ⟨wr.heap.size, 3, none⟩ = some (.string s) ∧ w'.cell? ⟨wr.heap.size, 4, none⟩ = some (.slice A' ps.length c')))) (by kernel_rfl) (HQ.out _ HV.out) (fun hHeld => ?_)
        refine to_lin (T := isSrcIT) (n := 18) isSrcIS ⟨by kernel_rfl, by kernel_rfl, by kernel_rfl⟩ (by kernel_rfl) (fun hTag => ?_)
        (refine lin_on (v := ?_) rfl (fun _ _ _ h => h) (by rfl) ?_ (by assumption) ?_; rotate_left; (· (intro wq hSw; go_simp; try with_reducible rfl)); try simp only [Act.put, List.setIfInBounds_toArray, List.set_cons_zero, List.set_cons_succ])
        refine lin_call rfl (by rfl) (fun K hK => ?_)
        go_simp
        go_at_call 60
        refine (isFeature_is a0 a kd rk s A' c' ps _ _ (HE.out.all (HB.out.trans (HV.out.1.mono HB.out.size))) ((HSS.out.below (HB.out.trans (HV.out.1.mono HB.out.size))).mono (HB.out.trans (HV.out.1.mono HB.out.size)).size) hpl hcap1 hcap2 hsz hq).mono ?_
        rintro e w9 ⟨rfl, hb9⟩
        have HV := Lib.hid (HV.out.next hb9)
        clear hb9
        go_wp2_with fail
        refine hK.out _ _ ?_ (fun hHeld => ?_)
        · exact HQ.out _ HV.out
        clear hK K
        try simp only [Act.put, List.setIfInBounds_toArray, List.set_cons_zero, List.set_cons_succ]
        iterate 2 (refine lin_on (v := ?_) rfl (fun _ _ _ h => h) (by rfl) ?_ (by assumption) ?_; rotate_left; (· (intro wq hSw; go_simp; try with_reducible rfl)); try simp only [Act.put, List.setIfInBounds_toArray, List.set_cons_zero, List.set_cons_succ])
        iterate 13 (refine lin_off rfl (fun _ _ _ h => h) (by rfl) (by assumption) ?_; try simp only [Act.put, List.setIfInBounds_toArray, List.set_cons_zero, List.set_cons_succ])
        (refine lin_on (v := ?_) rfl (fun _ _ _ h => h) (by rfl) ?_ (by assumption) ?_; rotate_left; (· (intro wq hSw; go_simp; try with_reducible rfl)); try simp only [Act.put, List.setIfInBounds_toArray, List.set_cons_zero, List.set_cons_succ])
        refine lin_done ?_
        go_wp2
        go_ret
        exact ⟨rfl, HB.out.trans (HV.out.1.mono HB.out.size)⟩
      · cases j with
        | zero =>
          have HNx := Lib.hid (seen_step HU.out HF.out hq (fun g h0 => by omega))
          rw [Nat.zero_mul, Nat.add_zero] at q0 q1 q2 q3 q4
          have HQ : Hid (∀ W, Vars wr W [FtC a kd rk s A' ps.length c'] → (W.cell? ⟨wr.heap.size, 0, none⟩ = some (.int .i64 a) ∧ W.cell? ⟨wr.heap.size, 1, none⟩ = some (.int .i64 kd) ∧ W.cell? ⟨wr.heap.size, 2, none⟩ = some (.int .i64 rk) ∧ W.cell? ⟨wr.heap.size, 3, none⟩ = some (.string s) ∧ W.cell? ⟨wr.heap.size, 4, none⟩ = some (.slice A' ps.length c'))) := Lib.hid fun W hW => hW.c50
          go_upto_region 6 with fail
          refine wp_region_held_drew (S := (fun w' => (w'.cell? ⟨wr.heap.size, 0, none⟩ = some (.int .i64 a) ∧ w'.cell? ⟨wr.heap.size, 1, none⟩ = some (.int .i64 kd) ∧ w'.cell? ⟨wr.heap.size, 2, none⟩ = some (.int .i64 rk) ∧ w'.cell? ⟨wr.heap.size, 3, none⟩ = some (.string s) ∧ w'.cell? ⟨wr.heap.size, 4, none⟩ = some (.slice A' ps.length c')))) (by kernel_rfl) (HQ.out _ HV.out) (fun hHeld => ?_)
          refine to_lin (T := isSrcIT) (n := 18) isSrcIS ⟨by kernel_rfl, by kernel_rfl, by kernel_rfl⟩ (by kernel_rfl) (fun hTag => ?_)
          (refine lin_on (v := ?_) rfl (fun _ _ _ h => h) (by rfl) ?_ (by assumption) ?_; rotate_left; (· (intro wq hSw; go_simp; try with_reducible rfl)); try simp only [Act.put, List.setIfInBounds_toArray, List.set_cons_zero, List.set_cons_succ])
          refine lin_call rfl (by rfl) (fun K hK => ?_)
          go_simp
          go_at_call 60
          refine (isFeature_is a0 a kd rk s A' c' ps _ _ (HE.out.all (HB.out.trans (HV.out.1.mono HB.out.size))) ((HSS.out.below (HB.out.trans (HV.out.1.mono HB.out.size))).mono (HB.out.trans (HV.out.1.mono HB.out.size)).size) hpl hcap1 hcap2 hsz hq).mono ?_
          rintro e w9 ⟨rfl, hb9⟩
          have HV := Lib.hid (HV.out.next hb9)
          clear hb9
          go_wp2_with fail
          refine hK.out _ _ ?_ (fun hHeld => ?_)
          · exact HQ.out _ HV.out
          clear hK K
          try simp only [Act.put, List.setIfInBounds_toArray, List.set_cons_zero, List.set_cons_succ]
          iterate 5 (refine lin_on (v := ?_) rfl (fun _ _ _ h => h) (by rfl) ?_ (by assumption) ?_; rotate_left; (· (intro wq hSw; go_simp; try with_reducible rfl)); try simp only [Act.put, List.setIfInBounds_toArray, List.set_cons_zero, List.set_cons_succ])
          iterate 9 (refine lin_off rfl (fun _ _ _ h => h) (by rfl) (by assumption) ?_; try simp only [Act.put, List.setIfInBounds_toArray, List.set_cons_zero, List.set_cons_succ])
          iterate 2 (refine lin_on (v := ?_) rfl (fun _ _ _ h => h) (by rfl) ?_ (by assumption) ?_; rotate_left; (· (intro wq hSw; go_simp; try with_reducible rfl)); try simp only [Act.put, List.setIfInBounds_toArray, List.set_cons_zero, List.set_cons_succ])
          refine lin_done ?_
          go_wp2
          go_roundw
          case rel => exact ⟨0 + 1, by omega, by go_num, HNx, Lib.hid (HB.out.trans (HV.out.1.mono HB.out.size))⟩
          case measure => simp [intOf]; omega
        | succ k =>
          obtain ⟨⟨g0, g1, g2, g3, g4⟩, hg⟩ : ∃ f, l[k]? = some f := ⟨_, List.getElem?_eq_getElem (by omega)⟩
          obtain ⟨b2, off2, -, -, e, hbl2, -, -, hgc, -⟩ := HS.out.at_ hg
          simp only [Option.some.injEq, Addr.mk.injEq, and_true] at e
          obtain ⟨rfl, rfl⟩ := e
          have HG := Lib.hid hg
          have HGC := Lib.hid hgc
          clear hg hgc
          have HQ : Hid (∀ W, Vars wr W [FtC a kd rk s A' ps.length c'] → (W.cell? ⟨wr.heap.size, 0, none⟩ = some (.int .i64 a) ∧ W.cell? ⟨wr.heap.size, 1, none⟩ = some (.int .i64 kd) ∧ W.cell? ⟨wr.heap.size, 2, none⟩ = some (.int .i64 rk) ∧ W.cell? ⟨wr.heap.size, 3, none⟩ = some (.string s) ∧ W.cell? ⟨wr.heap.size, 4, none⟩ = some (.slice A' ps.length c')) ∧ W.cell? ⟨b, off + k * 5, none⟩ = some (.int .i64 g0)) := Lib.hid fun W hW => ⟨hW.c50, (hW.1.cell (p := ⟨b, off + k * 5, none⟩) (Nat.lt_of_lt_of_le hbl HB.out.size)).trans ((HB.out.cell (p := ⟨b, off + k * 5, none⟩) hbl).trans HGC.out)⟩
          have e1 : ((k + 1 : Nat) : Int) = (k : Int) + 1 := by omega
          rw [e1] at hji ⊢
          have hw : IntKind.i64.wrap (k : Int) = k := IntWalk.i64_in _ (by omega)
          have hpos : (0 : Int) < (k : Int) + 1 := by omega
          have hnn : (0 : Int) ≤ (k : Int) + 1 := by omega
          have hkl : (k : Int) < (l.length : Int) := by omega
          by_cases hle : a ≤ g0
          · obtain rfl : false = z := (src_no2 (j := k + 1) (by omega) (by rw [Nat.add_sub_cancel]; exact HG.out) HF.out hle).symm.trans HZ.out
            go_upto_region 6 with fail
            refine wp_region_held_drew (S := (fun w' => (w'.cell? ⟨wr.heap.size, 0, none⟩ = some (.int .i64 a) ∧ w'.cell? ⟨wr.heap.size, 1, none⟩ = some (.int .i64 kd) ∧ w'.cell? ⟨wr.heap.size, 2, none⟩ = some (.int .i64 rk) ∧ w'.cell? ⟨wr.heap.size, 3, none⟩ = some (.string s) ∧ w'.cell? ⟨wr.heap.size, 4, none⟩ = some (.slice A' ps.length c')) ∧ w'.cell? ⟨b, off + k * 5, none⟩ = some (.int .i64 g0))) (by kernel_rfl) (HQ.out _ HV.out) (fun hHeld => ?_)
            refine to_lin (T := isSrcIT) (n := 18) isSrcIS ⟨by kernel_rfl, by kernel_rfl, by kernel_rfl⟩ (by kernel_rfl) (fun hTag => ?_)
            (refine lin_on (v := ?_) rfl (fun _ _ _ h => h) (by rfl) ?_ (by assumption) ?_; rotate_left; (· (intro wq hSw; go_simp; try with_reducible rfl)); try simp only [Act.put, List.setIfInBounds_toArray, List.set_cons_zero, List.set_cons_succ])
            refine lin_call rfl (by rfl) (fun K hK => ?_)
            go_simp
            go_at_call 60
            refine (isFeature_is a0 a kd rk s A' c' ps _ _ (HE.out.all (HB.out.trans (HV.out.1.mono HB.out.size))) ((HSS.out.below (HB.out.trans (HV.out.1.mono HB.out.size))).mono (HB.out.trans (HV.out.1.mono HB.out.size)).size) hpl hcap1 hcap2 hsz hq).mono ?_
            rintro e w9 ⟨rfl, hb9⟩
            have HV := Lib.hid (HV.out.next hb9)
            clear hb9
            go_wp2_with fail
            refine hK.out _ _ ?_ (fun hHeld => ?_)
            · exact HQ.out _ HV.out
            clear hK K
            try simp only [Act.put, List.setIfInBounds_toArray, List.set_cons_zero, List.set_cons_succ]
            iterate 16 (refine lin_on (v := ?_) rfl (fun _ _ _ h => h) (by rfl) ?_ (by assumption) ?_; rotate_left; (· (intro wq hSw; go_simp; try with_reducible rfl)); try simp only [Act.put, List.setIfInBounds_toArray, List.set_cons_zero, List.set_cons_succ])
            refine lin_done ?_
            go_wp2
            go_ret
            exact ⟨rfl, HB.out.trans (HV.out.1.mono HB.out.size)⟩
          · have HNx := Lib.hid (seen_step HU.out HF.out hq (fun g h0 hg => by
              rw [Nat.add_sub_cancel] at hg
              obtain rfl : g = (g0, g1, g2, g3, g4) := Option.some.inj (hg.symm.trans HG.out)
              show g0 < a
              omega))
            go_upto_region 6 with fail
            refine wp_region_held_drew (S := (fun w' => (w'.cell? ⟨wr.heap.size, 0, none⟩ = some (.int .i64 a) ∧ w'.cell? ⟨wr.heap.size, 1, none⟩ = some (.int .i64 kd) ∧ w'.cell? ⟨wr.heap.size, 2, none⟩ = some (.int .i64 rk) ∧ w'.cell? ⟨wr.heap.size, 3, none⟩ = some (.string s) ∧ w'.cell? ⟨wr.heap.size, 4, none⟩ = some (.slice A' ps.length c')) ∧ w'.cell? ⟨b, off + k * 5, none⟩ = some (.int .i64 g0))) (by kernel_rfl) (HQ.out _ HV.out) (fun hHeld => ?_)
            refine to_lin (T := isSrcIT) (n := 18) isSrcIS ⟨by kernel_rfl, by kernel_rfl, by kernel_rfl⟩ (by kernel_rfl) (fun hTag => ?_)
            (refine lin_on (v := ?_) rfl (fun _ _ _ h => h) (by rfl) ?_ (by assumption) ?_; rotate_left; (· (intro wq hSw; go_simp; try with_reducible rfl)); try simp only [Act.put, List.setIfInBounds_toArray, List.set_cons_zero, List.set_cons_succ])
            refine lin_call rfl (by rfl) (fun K hK => ?_)
            go_simp
            go_at_call 60
            refine (isFeature_is a0 a kd rk s A' c' ps _ _ (HE.out.all (HB.out.trans (HV.out.1.mono HB.out.size))) ((HSS.out.below (HB.out.trans (HV.out.1.mono HB.out.size))).mono (HB.out.trans (HV.out.1.mono HB.out.size)).size) hpl hcap1 hcap2 hsz hq).mono ?_
            rintro e w9 ⟨rfl, hb9⟩
            have HV := Lib.hid (HV.out.next hb9)
            clear hb9
            go_wp2_with fail
            refine hK.out _ _ ?_ (fun hHeld => ?_)
            · exact HQ.out _ HV.out
            clear hK K
            try simp only [Act.put, List.setIfInBounds_toArray, List.set_cons_zero, List.set_cons_succ]
            iterate 16 (refine lin_on (v := ?_) rfl (fun _ _ _ h => h) (by rfl) ?_ (by assumption) ?_; rotate_left; (· (intro wq hSw; go_simp; try with_reducible rfl)); try simp only [Act.put, List.setIfInBounds_toArray, List.set_cons_zero, List.set_cons_succ])
            refine lin_done ?_
            go_wp2
            go_roundw
            case rel => exact ⟨(k + 1) + 1, by omega, by go_num, HNx, Lib.hid (HB.out.trans (HV.out.1.mono HB.out.size))⟩
            case measure => simp [intOf]; omega
    · obtain rfl : j = l.length := by omega
      obtain rfl : true = z := by rw [← HZ.out, seen_all HU.out, decide_eq_true HL16.out]
      go_wp2
      go_ret
      exact ⟨rfl, HB.out⟩
end Go.Proofs.YtbnjaaegbmhopaaGreatDoor
end
section
/- fillMatrix of package impl: arrays of arrays by value. -/
namespace Go.Proofs.YtbnjaaegbmhopaaGreatDoor
open Go.ChangeShapes Go.WideShapes Go.ChangeAt Go.RowKit
set_option linter.unusedVariables false

theorem zMat : (Tryz.prog.info? 90).map (fun i => (i.zero, i.size)) = some (some (.agg (Array.replicate 256 (.int .i64 0))), 256) := by kernel_rfl
theorem zPar : (Tryz.prog.info? 133).map (fun i => (i.zero, i.size)) = some (some (.agg (Array.replicate 16 (.slice none 0 0))), 16) := by kernel_rfl
set_option maxRecDepth 100000 in
set_option maxHeartbeats 8000000 in
theorem fillMatrix_any (a0 : Addr) (A : Option Addr) (c : Nat) (l : List Feat) (w : World) (hE : ErrAt a0 w) (hs : SeesF w w.heap.size A l) (hl : l.length ≤ 16) (hp : SmallF l) :
    Calls Tryz.prog 58 #[.slice A l.length c] w fun e w' => ∃ C, e = .returned (.agg C) ∧ MatAt l l.length 0 C ∧ Below w.heap.size w w' := by
  obtain ⟨Z, hZs, hZ1, hZ0, z1, z2⟩ : ∃ Z : Array Value, Z.size = 256 ∧ Z.all (·.oneCell') = true ∧ (∀ i : Nat, i < 256 → ∃ x : Int, Z[i]? = some (.int .i64 x)) ∧ (∀ w, (zeroValue 90).run Tryz.prog w = .ok (.agg Z) w) ∧ (Tryz.prog.info? 90).map (·.size) = some 256 :=
    ⟨Array.replicate 256 (.int .i64 0), by simp, by kernel_rfl, fun i hi => ⟨0, by simp [hi]⟩, (zero_of_info zMat).1, (zero_of_info zMat).2⟩
  obtain ⟨Y, hYs, hY1, y1, y2⟩ : ∃ Z : Array Value, Z.size = 16 ∧ Z.all (·.oneCell') = true ∧ (∀ w, (zeroValue 133).run Tryz.prog w = .ok (.agg Z) w) ∧ (Tryz.prog.info? 133).map (·.size) = some 16 :=
    ⟨Array.replicate 16 (.slice none 0 0), by simp, by kernel_rfl, (zero_of_info zPar).1, (zero_of_info zPar).2⟩
  have s1 : (storeCells ⟨w.heap.size + 1, 0, none⟩ Y.toList).run Tryz.prog ((w.alloc (.cells Z 90)).alloc (.cells Y 133)) = .ok () ((w.alloc (.cells Z 90)).alloc (.cells Y 133)) := by
    have := run_storeCells_new (P := Tryz.prog) (w.alloc (.cells Z 90)) 133 Y Y (by rw [y2, hYs]) rfl hY1
    simpa using this
  have s2 : (storeCells ⟨w.heap.size + 1 + 1, 0, none⟩ Z.toList).run Tryz.prog (((w.alloc (.cells Z 90)).alloc (.cells Y 133)).alloc (.cells Z 90)) = .ok () (((w.alloc (.cells Z 90)).alloc (.cells Y 133)).alloc (.cells Z 90)) := by
    have := run_storeCells_new (P := Tryz.prog) ((w.alloc (.cells Z 90)).alloc (.cells Y 133)) 90 Z Z (by rw [z2, hZs]) rfl hZ1
    simpa using this
  have HV := Lib.hid (Vars.of3 w Z Y Z 90 133 90)
  have HS := Lib.hid hs; have HE := Lib.hid hE; have HP := Lib.hid hp
  have HZ0 := Lib.hid (MatAt.zero (l := l) hZs hZ0)
  have HY0 := Lib.hid (PartsAt.zero (l := l) (w := (((w.alloc (.cells Z 90)).alloc (.cells Y 133)).alloc (.cells Z 90))) (lo := w.heap.size + 3) hYs)
  have HZs := Lib.hid hZs; have HZ2 := Lib.hid z2
  clear hs hE hp hZ0 hZ1 hY1 y2 z2
  go_enter Tryz.func58, Tryz.ntmps58
  go_wp2
  clear s1 s2 z1 y1 hYs hZs
  go_loopw [12] (fun i wr => ∃ (j : Nat) (Pc Mc : Array Value), j ≤ l.length ∧ i = .int .i64 j ∧ Hid (Vars w wr [Z, Pc, Mc]) ∧ Hid (PartsAt l wr (w.heap.size + 3) j Pc) ∧ Hid (MatAt l j 0 Mc)) (fun i _ => l.length - (intOf i).toNat)
  case atStart => exact ⟨0, Y, Z, Nat.zero_le _, rfl, HV, HY0, HZ0⟩
  case round =>
    obtain ⟨j, Pc, Mc, hj, rfl, HV, HPt, HMt⟩ := hrel
    by_cases hlt : j < l.length
    · have hlt' : (j : Int) < (l.length : Int) := by omega
      have hj16 : j < 16 := by omega
      have hj16' : (j : Int) < 16 := by omega
      obtain ⟨⟨fa, fk, fr, fs, fp⟩, hf⟩ : ∃ f, l[j]? = some f := ⟨_, List.getElem?_eq_getElem hlt⟩
      obtain ⟨b, off, A', c', rfl, hbl, hss, hcap, hcell⟩ := HS.out.at_ hf
      have HB := Lib.hid HV.out.1
      obtain ⟨q0, q1, q2, q3, q4⟩ : _ ∧ _ ∧ _ ∧ _ ∧ _ := ⟨(HB.out.cell (p := ⟨b, off + j * 5, none⟩) hbl).trans hcell.1, (HB.out.cell (p := ⟨b, off + j * 5 + 1, none⟩) hbl).trans hcell.2.1, (HB.out.cell (p := ⟨b, off + j * 5 + 2, none⟩) hbl).trans hcell.2.2.1, (HB.out.cell (p := ⟨b, off + j * 5 + 3, none⟩) hbl).trans hcell.2.2.2.1, (HB.out.cell (p := ⟨b, off + j * 5 + 4, none⟩) hbl).trans hcell.2.2.2.2⟩
      obtain ⟨hpl, hsz⟩ := HP.out j _ hf
      dsimp only at hpl hsz
      obtain ⟨hcap1, hcap2⟩ := hcap
      have HF := Lib.hid hf
      have HVa := Lib.hid (HV.out.al (.cells (FtC fa fk fr fs A' fp.length c') 41))
      have HSS := Lib.hid ((hss.below HVa.out.1).mono HVa.out.1.size)
      have HEa := Lib.hid (HE.out.all HVa.out.1)
      have HPa := Lib.hid (HPt.out.all (Below.alloc (Below.refl _ _) (Nat.le_refl _) (.cells (FtC fa fk fr fs A' fp.length c') 41)))
      obtain ⟨uo, huo⟩ := HPt.out.has hj16
      have HUO := Lib.hid huo
      clear hss hcell hf huo
      go_wp2_with fail
      refine (partsOf_any a0 fa fk fr fs A' c' fp _ HEa.out HSS.out hpl hcap1 hcap2 hsz).mono ?_
      rintro e w1 ⟨A1, c1, L, hL, rfl, ho1, hb1⟩
      have HV1 := Lib.hid (HVa.out.next hb1)
      have HP1 := Lib.hid (HPa.out.all hb1)
      have HO1 := Lib.hid (ho1.mono (C := w.heap.size + 3) HVa.out.more3)
      have kp : w1.cell? ⟨w.heap.size + 1, j, none⟩ = some uo := HV1.out.cell _ 1 j rfl rfl HUO.out
      have fz : w1.frozen? ⟨w.heap.size + 1, j, none⟩ = false := HV1.out.frozen _ 1 j rfl rfl
      have HV2 := Lib.hid (HV1.out.setAt (w.heap.size + 1) 1 j rfl rfl (.slice A1 L.length c1))
      have HP2 := Lib.hid ((HP1.out.low (b := w.heap.size + 1) (i := j) (by omega) (.slice A1 L.length c1)).put hj16 (HO1.out.setLow (b := w.heap.size + 1) (i := j) (by omega) (.slice A1 L.length c1)) (fun f hf => by rw [hL.out]; rw [HF.out] at hf; rw [← Option.some.inj hf]))
      clear HV HVa HV1 HPt HPa HP1 HO1 HSS HEa HB ho1 hb1 q0 q1 q2 q3 q4
      go_wp2
      go_loopw [22] (fun k wx => ∃ (i : Nat) (Mc : Array Value), i ≤ j ∧ k = .int .i64 i ∧ Hid (Vars w wx [Z, Pc.setIfInBounds j (.slice A1 L.length c1), Mc]) ∧ Hid (PartsAt l wx (w.heap.size + 3) (j + 1) (Pc.setIfInBounds j (.slice A1 L.length c1))) ∧ Hid (MatAt l j i Mc)) (fun k _ => j - (intOf k).toNat)
      case atStart => exact ⟨0, Mc, Nat.zero_le _, rfl, HV2, HP2, HMt⟩
      case round =>
        clear kp fz HV2 HP2 HMt
        obtain ⟨i, Mc, hi, rfl, HV2, HP2, HMt⟩ := hrel
        by_cases hlk : i < j
        · have hlk' : (i : Int) < (j : Int) := by omega
          have hi16 : (i : Int) < 16 := by omega
          obtain ⟨⟨ga, gk, gr, gs, gp⟩, hg⟩ : ∃ f, l[i]? = some f := ⟨_, List.getElem?_eq_getElem (by omega)⟩
          obtain ⟨Ai, ci, Li, hLi, hci, hoi⟩ := HP2.out.2 i _ (by omega) hg
          obtain ⟨Aj, cj, Lj, hLj, hcj, hoj⟩ := HP2.out.2 j _ (by omega) HF.out
          obtain ⟨xo, hxo⟩ := HMt.out.2.1 (i * 16 + j) (by omega)
          obtain ⟨m, hm⟩ : ∃ m, mtV Li Lj = m := ⟨_, rfl⟩
          have HM := Lib.hid hm
          have HN := Lib.hid (HMt.out.put hl hlt hlk (v := m) (fun f g hf' hg' => by
            rw [hg] at hf'; rw [HF.out] at hg'
            rw [← Option.some.inj hf', ← Option.some.inj hg', ← hm, hLi, hLj]; rfl))
          have HOi := Lib.hid hoi; have HOj := Lib.hid hoj
          have h1 : Li.length ≤ 1000 := by rw [hLi]; exact Nat.le_trans (parts_len _) (by decide)
          have h2 : Lj.length ≤ 1000 := by rw [hLj]; exact Nat.le_trans (parts_len _) (by decide)
          have HQ : Hid (∀ W, Vars w W [Z, Pc.setIfInBounds j (.slice A1 L.length c1), Mc] → (W.cell? ⟨w.heap.size + 1, i, none⟩ = some (.slice Ai Li.length ci) ∧ W.cell? ⟨w.heap.size + 1, j, none⟩ = some (.slice Aj Lj.length cj)) ∧ (W.cell? ⟨w.heap.size + 1 + 1, i * 16 + j, none⟩ = some (.int .i64 xo) ∧ W.frozen? ⟨w.heap.size + 1 + 1, i * 16 + j, none⟩ = false)) := Lib.hid fun W hW =>
            ⟨⟨hW.cell _ 1 i rfl rfl hci, hW.cell _ 1 j rfl rfl hcj⟩, hW.cell _ 2 _ rfl rfl hxo, hW.frozen _ 2 _ rfl rfl⟩
          have HVd := Lib.hid HV2.out.drew
          have HQ0 := Lib.hid (HQ.out _ HV2.out); have HQd := Lib.hid (HQ.out _ HVd.out)
          have HOid := Lib.hid (HOi.out.drew.sees elSegment); have HOjd := Lib.hid (HOj.out.drew.sees elSegment)
          have HPd := Lib.hid (HP2.out.all (Below.refl _ _).drew)
          have HS2 : Hid (∀ W, Vars w W [Z, Pc.setIfInBounds j (.slice A1 L.length c1), Mc.setIfInBounds (i * 16 + j) (.int .i64 m)] → (W.cell? ⟨w.heap.size + 1, i, none⟩ = some (.slice Ai Li.length ci) ∧ W.cell? ⟨w.heap.size + 1, j, none⟩ = some (.slice Aj Lj.length cj))) := Lib.hid fun W hW => ⟨hW.cell _ 1 i rfl rfl hci, hW.cell _ 1 j rfl rfl hcj⟩
          clear hg hLi hci hoi hLj hcj hoj hxo hm
          go_upto_region 10 with fail
          go_region_held3 (fun w' => w'.cell? ⟨w.heap.size + 1, i, none⟩ = some (.slice Ai Li.length ci) ∧ w'.cell? ⟨w.heap.size + 1, j, none⟩ = some (.slice Aj Lj.length cj))
            (first | with_reducible exact HQ0.out.1 | with_reducible exact HQd.out.1 | with_reducible exact hQ1.out.1 | with_reducible exact hQ2.out) (first
            | (go_at_call 56; (with_reducible refine (greatest_is Ai Aj ci cj Li Lj m _ HOid.out HOjd.out h1 h2 HM.out).mono ?_); rintro e w9 ⟨rfl, hb9⟩; have HV9 := Lib.hid (HVd.out.next hb9); have HP9 := Lib.hid (HPd.out.all hb9); have hQ1 := Lib.hid (HQ.out _ HV9.out); have k9 := hQ1.out.2.1; have f9 := hQ1.out.2.2; have HV3 := Lib.hid (HV9.out.setAt (w.heap.size + 1 + 1) 2 (i * 16 + j) rfl rfl (.int .i64 m)); have HP3 := Lib.hid (HP9.out.low (b := w.heap.size + 1 + 1) (i := i * 16 + j) (by omega) (.int .i64 m)); have hQ2 := Lib.hid (HS2.out _ HV3.out)) | fail)
          all_goals
            go_wp2
            go_roundw
            case rel => exact ⟨i + 1, _, by omega, by go_num, HV3, HP3, HN⟩
            case measure => simp [intOf]; omega
        · obtain rfl : i = j := by omega
          have hlk' : ¬ (i : Int) < (i : Int) := by omega
          go_wp2
          go_roundw
          case rel => exact ⟨i + 1, _, Mc, by omega, by go_num, HV2, HP2, Lib.hid HMt.out.next⟩
          case measure => simp [intOf]; omega
    · obtain rfl : j = l.length := by omega
      have hlt' : ¬ (l.length : Int) < (l.length : Int) := by omega
      obtain ⟨T2, hg2⟩ := HV.out.2.2 2 Mc rfl
      obtain ⟨T0, hg0⟩ := HV.out.2.2 0 Z rfl
      have hMs := HMt.out.1
      have st0 := storeCells_row (P := Tryz.prog) wr (w.heap.size + 0) T0 90 Z Mc hg0 (by rw [HZ2.out, hMs]) (by rw [HZs.out, hMs]) HMt.out.one
      rw [Nat.add_zero] at st0
      have hgr := setRow_block (cells := Mc) hg0
      rw [Nat.add_zero] at hgr
      have HR := Lib.hid hgr
      have HBr := Lib.hid (Below.setRow HV.out.1 (g := w.heap.size) (Nat.le_refl _) Mc)
      have HG2 := Lib.hid hg2
      clear hg0 hg2 hgr
      go_wp2_with fail
      refine wp_load_row 90 _ rfl (w.heap.size + 2) rfl T2 Mc _ _ HG2.out Tryz.underlying90 rfl (by rw [HZ2.out, hMs]) ?_
      go_wp2
      refine bodyPost_ret (v := .agg Mc) (results_cell_row rfl _ _ _ _ Mc _ _ rfl HR.out Tryz.underlying90 rfl (by rw [HZ2.out, hMs])) rfl ?_
      exact ⟨Mc, rfl, HMt.out, HBr.out⟩
/-- append of a meeting as a step of a drawn region: which block it writes. -/
theorem stepMtG (w : World) {o : Oper} {a : Act} {K : Act → World → Prop} {Q : Exit → Act → World → Prop} (s x : Operand)
    (ho : o.op = .call { callee := .builtin .append, args := #[s, x], argTypes := #[47, 47] })
    (base : Nat) (v : Value) (l : List Mt3) (hv : a.eval s = v) (hown : OwnE 3 encMeet w base 93 v l)
    (B : Nat) (A : Option Addr) (m c : Nat) (l2 : List Mt3) (hx : a.eval x = .slice A m c) (hm : m = l2.length) (hs : SeesE 3 encMeet w B A l2) (h63 : l.length + l2.length ≤ 1099511627776) (hbase : base ≤ w.heap.size)
    (h : ∀ A' c' L w', Hid (L = l ++ l2) → L.length ≤ l.length + l2.length → l.length + l2.length ≤ L.length → OwnE 3 encMeet w' base 93 (.slice A' L.length c') L → Below base w w' → Hid (w.grownBy w' v.ownBlock) → Hid ((Value.slice A' L.length c').ownBlock = v.ownBlock ∨ (Value.slice A' L.length c').ownBlock = some w.heap.size) → K (a.put o.dst (.slice A' L.length c')) w') :
    o.wp Tryz.prog a w K Q := by
  obtain ⟨i, hi, hz, h1, h2⟩ := info_parts infoMeet
  obtain ⟨v', w', hrun, q2, q3, q4⟩ := run_appE (P := Tryz.prog) w elMeet 47 o.type 93 i _ 24 Tryz.underlying47 hi hz h1 h2 rfl base v l hown B A m c l2 hm hs h63 (by decide) hbase
  unfold Oper.wp execOp
  simp only [ho, resolve, invoke, builtin, Sem.run_bind, Sem.run_pure, Result.andThen_ok, List.map_toArray, List.map_cons, List.map_nil, hv, hx, hrun]
  obtain ⟨A', c', rfl, _, _⟩ := q2.form
  exact h A' c' _ w' (Lib.hid rfl) (by simp) (by simp) q2 ((Below.refl _ _).grown q3 hbase fun g hg => (World.ownsRow.lt hown g hg).1) (Lib.hid q3) (Lib.hid q4)
theorem OneV.grown {m b : Nat} {w w' : World} {cs : Array Value} {r : Option Nat} (h : OneV m w b cs) (hg : w.grownBy w' r) (hr : ∀ g, r = some g → ¬ g = b) : OneV m w' b cs := by
  obtain ⟨h1, T, h3⟩ := h
  refine ⟨h1, T, (hg.block b (Array.getElem?_eq_some_iff.1 h3).1 ?_).trans h3⟩
  first
    | exact fun e => hr b e rfl
    | exact fun e => hr b e.symm rfl
theorem keepMI {w : World} {p : Addr} {v : Value} (h : w.cell? p = some v) (o : Obj) : (w.alloc o).cell? p = some v :=
  (World.cell?_of_block (Below.heap_alloc _ _ _ (World.block_lt_of_cell? w p h))).trans h
theorem sizeMI (w : World) (o : Obj) : w.heap.size ≤ (w.alloc o).heap.size := by simp
set_option maxRecDepth 100000 in
set_option maxHeartbeats 8000000 in
theorem meetsOf_any (a0 : Addr) (A : Option Addr) (c : Nat) (l : List Feat) (w : World) (hE : ErrAt a0 w) (hs : SeesF w w.heap.size A l) (hl : l.length ≤ 1099511627776) (hp : SmallF l) :
    Calls Tryz.prog 21 #[.slice A l.length c] w (GivesE 3 encMeet 93 (meetsV l) w) := by
  obtain ⟨Z, hZs, z1, z2⟩ : ∃ Z : Array Value, Z.size = 256 ∧ (∀ w, (zeroValue 90).run Tryz.prog w = .ok (.agg Z) w) ∧ (Tryz.prog.info? 90).map (·.size) = some 256 :=
    ⟨Array.replicate 256 (.int .i64 0), by simp, (zero_of_info zMat).1, (zero_of_info zMat).2⟩
  have HB0 := Lib.hid (show Below w.heap.size w (w.alloc (.cells #[] 93)) from (Below.refl _ _).alloc (Nat.le_refl _) _)
  have HO0 := Lib.hid (OwnE.lit (n := 3) (enc := encMeet) w w.heap.size 93 (Nat.le_refl _))
  have HS0 := Lib.hid hs; have HE0 := Lib.hid (hE.all HB0.out); have HP := Lib.hid hp
  have HS1 := Lib.hid (hs.belowAll HB0.out)
  have HZ2 := Lib.hid z2
  clear hs hE hp z2
  go_enter Tryz.func21, Tryz.ntmps21
  cases hz : srcV l
  · have HN := Lib.hid (meets_no hz)
    go_wp2_with fail
    refine (isSource_is a0 A c l _ HE0.out HS1.out hl HP.out _ hz).mono ?_
    rintro e w1 ⟨rfl, hb1⟩
    go_wp2
    go_ret
    exact ⟨_, _, [], Lib.hid HN.out.symm, rfl, HO0.out.belowAll hb1, HB0.out.trans (hb1.mono HB0.out.size)⟩
  have HN := Lib.hid (meets_yes hz)
  have hl16 : l.length ≤ 16 := src_len hz
  have HL16 := Lib.hid hl16
  go_wp2_with fail
  refine (isSource_is a0 A c l _ HE0.out HS1.out hl HP.out _ hz).mono ?_
  rintro e w1 ⟨rfl, hb1⟩
  have HB1 := Lib.hid (HB0.out.trans (hb1.mono HB0.out.size))
  have HO1 := Lib.hid (HO0.out.belowAll hb1)
  have HS2 := Lib.hid (HS1.out.belowAll hb1)
  have HE1 := Lib.hid (HE0.out.all hb1)
  clear hb1 HO0 HS1 HE0 HB0
  go_wp2_with fail
  refine (fillMatrix_any a0 A c l _ HE1.out HS2.out hl16 HP.out).mono ?_
  rintro e w2 ⟨C, rfl, hC, hb2⟩
  have hCs := hC.1
  have s2 : (storeCells ⟨w2.heap.size, 0, none⟩ C.toList).run Tryz.prog (w2.alloc (.cells Z 90)) = .ok () (w2.alloc (.cells C 90)) :=
    run_storeCells_new (P := Tryz.prog) w2 90 Z C (by rw [HZ2.out, hCs]) (by rw [hZs, hCs]) hC.one
  have HC := Lib.hid hC
  have HM := Lib.hid (OneV.new (m := 0) w2 (Nat.zero_le _) C 90)
  have HB2 := Lib.hid ((HB1.out.trans (hb2.mono HB1.out.size)).alloc (Nat.le_trans HB1.out.size hb2.size) (.cells C 90))
  have HO2 := Lib.hid ((HO1.out.belowAll hb2).alloc (.cells C 90))
  have HR0 : Hid (∀ g, (Value.slice (some ⟨w.heap.size, 0, none⟩) ([] : List Mt3).length 0).ownBlock = some g → ¬ g = w2.heap.size) := Lib.hid fun g hg => by
    have := ((HO1.out.belowAll hb2).lt g hg).2
    omega
  clear hC hb2 HB1 HO1 HS2 HE1
  go_wp2
  clear s2 z1 hZs hCs hz hl16
  go_loopw [3, 17] (fun v i wr => ∃ (j : Nat) (A1 : Option Addr) (c1 : Nat) (L : List Mt3), j ≤ l.length ∧ v = .slice A1 L.length c1 ∧ i = .int .i64 j ∧ Hid (L = mAll l j) ∧ Hid (OwnE 3 encMeet wr w.heap.size 93 (.slice A1 L.length c1) L) ∧ Hid (OneV 0 wr w2.heap.size C) ∧ Hid (∀ g, (Value.slice A1 L.length c1).ownBlock = some g → ¬ g = w2.heap.size) ∧ Hid (Below w.heap.size w wr)) (fun _ i _ => l.length - (intOf i).toNat)
  case atStart => exact ⟨0, _, _, [], Nat.zero_le _, rfl, rfl, Lib.hid rfl, HO2, HM, HR0, HB2⟩
  case round =>
    clear HM HB2 HO2 HR0
    obtain ⟨j, A1, c1, L, hj, rfl, rfl, HL, HO, HM, HR, HB⟩ := hrel
    by_cases hlt : j < l.length
    · have hlt' : (j : Int) < (l.length : Int) := by omega
      have hw : IntKind.i64.wrap ((j : Int) + 1) = (j : Int) + 1 := IntWalk.i64_in _ (by have := HL16.out; omega)
      obtain ⟨⟨fa, fk, fr, fs, fp⟩, hf⟩ : ∃ f, l[j]? = some f := ⟨_, List.getElem?_eq_getElem hlt⟩
      have HF := Lib.hid hf
      clear hf
      go_wp2
      go_loopw [3, 6, 7] (fun v k _ wx => ∃ (d : Nat) (A2 : Option Addr) (c2 : Nat) (L2 : List Mt3), d ≤ l.length - (j + 1) ∧ v = .slice A2 L2.length c2 ∧ k = .int .i64 ((j + 1 + d : Nat) : Int) ∧ Hid (L2 = mAll l j ++ mRow l j d) ∧ Hid (OwnE 3 encMeet wx w.heap.size 93 (.slice A2 L2.length c2) L2) ∧ Hid (OneV 0 wx w2.heap.size C) ∧ Hid (∀ g, (Value.slice A2 L2.length c2).ownBlock = some g → ¬ g = w2.heap.size) ∧ Hid (Below w.heap.size w wx)) (fun _ k _ _ => l.length - (intOf k).toNat)
      case atStart => exact ⟨0, A1, c1, L, Nat.zero_le _, rfl, by go_num, Lib.hid (by rw [mRow_zero, List.append_nil]; exact HL.out), HO, HM, HR, HB⟩
      case round =>
        obtain ⟨d, A2, c2, L2, hd, rfl, rfl, HL2, HO2, HM2, HR2, HB2⟩ := hrel
        obtain ⟨k, hk⟩ : ∃ k, j + 1 + d = k := ⟨_, rfl⟩
        have HK := Lib.hid hk
        have hkd : k ≤ l.length := by omega
        have hjk : j < k := by omega
        rw [hk]
        by_cases hlk : k < l.length
        · have hlk' : (k : Int) < (l.length : Int) := by omega
          have hd1 : d + 1 ≤ l.length - (j + 1) := by omega
          have hj16 : (j : Int) < 16 := by have := HL16.out; omega
          have hk16 : (k : Int) < 16 := by have := HL16.out; omega
          obtain ⟨⟨ga, gk, gr, gs, gp⟩, hg⟩ : ∃ f, l[k]? = some f := ⟨_, List.getElem?_eq_getElem hlk⟩
          obtain ⟨b, off, A', c', rfl, hbl, -, -, hcell⟩ := HS0.out.at_ HF.out
          obtain ⟨b2, off2, A'', c'', e, hbl2, -, -, hcell2⟩ := HS0.out.at_ hg
          simp only [Option.some.injEq, Addr.mk.injEq, and_true] at e
          obtain ⟨rfl, rfl⟩ := e
          have HG := Lib.hid hg
          obtain ⟨m, hm⟩ : ∃ m, meetF (fa, fk, fr, fs, fp) (ga, gk, gr, gs, gp) = m := ⟨_, rfl⟩
          have HMm := Lib.hid hm
          have kc := HM2.out.cell (j * 16 + k) (by have := HC.out.2.2 j k _ _ hjk (.inl hlk) HF.out hg; rw [hm] at this; exact this)
          have q0 := (HB2.out.cell (p := ⟨b, off + j * 5, none⟩) hbl).trans hcell.1
          have q1 := (HB2.out.cell (p := ⟨b, off + k * 5, none⟩) hbl).trans hcell2.1
          clear hcell hcell2 hg hm
          by_cases h0 : m = 0
          · subst h0
            have HNx : Hid (L2 = mAll l j ++ mRow l j (d + 1)) := Lib.hid (by rw [HL2.out, mRow_step, HK.out, mOne_no HF.out HG.out HMm.out, List.append_nil])
            go_wp2
            go_roundw
            case rel => exact ⟨d + 1, A2, c2, L2, hd1, rfl, by have := HK.out; go_num, HNx, HO2, HM2, HR2, HB2⟩
            case measure => simp [intOf]; omega
          · have HNx : Hid (∀ L3, L3 = L2 ++ [(fa, ga, m)] → L3 = mAll l j ++ mRow l j (d + 1)) := Lib.hid (fun L3 h => by rw [h, HL2.out, mRow_step, HK.out, mOne_yes HF.out HG.out (by rw [HMm.out]; exact h0), HMm.out, List.append_assoc])
            have hL63 : L2.length + [(fa, ga, m)].length ≤ 1099511627776 := by
              have := mAll_256 (l := l) HL16.out (n := j) (d := d) (by omega) (by omega)
              rw [← HL2.out] at this
              simp; omega
            have hz3 := HB2.out.size
            have HOd := Lib.hid HO2.out.drew
            have HMd := Lib.hid (HM2.out.drew.al (.cells #[.int .i64 fa, .int .i64 ga, .int .i64 m] 93))
            go_upto_region 13 with fail
            go_region_held3 (fun w' => w'.cell? ⟨b, off + j * 5, none⟩ = some (.int .i64 fa) ∧ w'.cell? ⟨b, off + k * 5, none⟩ = some (.int .i64 ga)) (first | exact ⟨q0, q1⟩ | exact ⟨keepMI q0 _, keepMI q1 _⟩ | exact hc4) (first
              | (refine stepMtG _ _ _ (by rfl) w.heap.size _ L2 (by rfl) (HOd.out.alloc _) _ _ 1 _ [(fa, ga, m)] (by rfl) (by rfl) (seesE_new elMeet _ (fa, ga, m) _ _ _ (Nat.lt_succ_self _) rfl) hL63 (Nat.le_trans hz3 (sizeMI _ _)) ?_; intro A4 c4 L4 w4 hL4 h1 h2 ho4 hb4 hg4 hv4; have HM4 := Lib.hid (OneV.grown HMd.out hg4.out HR2.out); have HR4 : Hid (∀ g, (Value.slice A4 L4.length c4).ownBlock = some g → ¬ g = w2.heap.size) := Lib.hid (fun g hg => by rcases hv4.out with h | h; exact HR2.out g (h.symm.trans hg); rw [h] at hg; have h5 := Option.some.inj hg; have h6 := HMd.out.lt; exact fun e => Nat.lt_irrefl _ (Nat.lt_of_lt_of_eq h6 (h5.trans e))); have hc4 := And.intro ((hb4.cell (p := ⟨b, off + j * 5, none⟩) hbl).trans (keepMI q0 _)) ((hb4.cell (p := ⟨b, off + k * 5, none⟩) hbl).trans (keepMI q1 _))) | fail)
            all_goals
              go_wp2
              go_roundw
              case rel => exact ⟨d + 1, A4, c4, L4, hd1, rfl, by have := HK.out; go_num, Lib.hid (HNx.out _ hL4.out), Lib.hid ho4, HM4, HR4, Lib.hid (HB2.out.trans ((((Below.refl _ _).alloc hz3 _).drew).trans hb4))⟩
              case measure => simp [intOf]; omega
        · obtain rfl : k = l.length := by omega
          have hlk' : ¬ (l.length : Int) < (l.length : Int) := by omega
          have HNx : Hid (L2 = mAll l (j + 1)) := Lib.hid (by rw [HL2.out, mAll_step, show d = l.length - (j + 1) by omega])
          clear hk
          go_wp2
          go_roundw
          case rel => exact ⟨j + 1, A2, c2, L2, by omega, rfl, by go_num, HNx, HO2, HM2, HR2, HB2⟩
          case measure => simp [intOf]; omega
    · obtain rfl : j = l.length := by omega
      have hlt' : ¬ (l.length : Int) < (l.length : Int) := by omega
      go_wp2
      go_ret
      exact ⟨A1, c1, L, Lib.hid (by rw [HL.out, HN.out]), rfl, HO.out, HB.out⟩
end Go.Proofs.YtbnjaaegbmhopaaGreatDoor
end
section
/- Rings in the model: RingSegments and TwiceArea. -/
namespace Go.Proofs.YtbnjaaegbmhopaaGreatDoor
open Go.ChangeShapes Go.WideShapes Go.ChangeAt Go.RowKit
set_option linter.unusedVariables false

set_option maxRecDepth 100000 in
set_option maxHeartbeats 1000000 in
theorem sRingSegments_any (A : Option Addr) (c : Nat) (l : List (Int × Int)) (w : World) (hs : SeesE 2 encPoint w w.heap.size A l) (hl : l.length ≤ 274877906944) :
    Calls Tryz.prog 64 #[.slice A l.length c] w (GivesE 4 encSegment 78 (rsV l) w) := by
  have HS := Lib.hid hs
  clear hs
  go_enter Tryz.func64, Tryz.ntmps64
  cases hz : isRg l
  · have HV : Hid (rsV l = []) := Lib.hid (by unfold rsV; rw [hz]; rfl)
    go_wp2_with (go_at_call 105; refine (sIsRing_is A c l _ HS.out hl _ hz).mono ?_; rintro e w1 ⟨rfl, hb1⟩)
    go_ret
    exact ⟨_, _, [], Lib.hid HV.out.symm, rfl, (OwnE.lit w1 w1.heap.size 78 (Nat.le_refl _)).mono hb1.size, hb1.alloc hb1.size _⟩
  · have HV : Hid (rsV l = rgS l) := Lib.hid (by unfold rsV; rw [hz]; rfl)
    go_wp2_with (first
      | (go_at_call 105; refine (sIsRing_is A c l _ HS.out hl _ hz).mono ?_; rintro e w1 ⟨rfl, hb1⟩; have HS1 := Lib.hid (HS.out.belowAll hb1); have HB1 := Lib.hid hb1)
      | (go_at_call 107; refine (l7Segments_any A c l _ HS1.out hl).mono ?_; rintro e w2 ⟨A1, c1, L, hL, rfl, ho2, hb2⟩))
    go_ret
    exact ⟨A1, c1, L, Lib.hid (by rw [hL.out, HV.out]), rfl, ho2.mono HB1.out.size, HB1.out.trans (hb2.mono HB1.out.size)⟩
end Go.Proofs.YtbnjaaegbmhopaaGreatDoor
end
section
/- PartsOf and FeaturesMeet of the model. -/
namespace Go.Proofs.YtbnjaaegbmhopaaGreatDoor
open Go.ChangeShapes Go.WideShapes Go.ChangeAt Go.RowKit
set_option linter.unusedVariables false

theorem smaxW_is (a b z : Int) (w : World) (hz : extV true a b = z) :
    Calls Tryz.prog 112 #[.int .i64 a, .int .i64 b] w fun e w' => e = .returned (.int .i64 z) ∧ Below w.heap.size w w' := by
  subst hz
  exact (smax_any a b w).mono fun e w' h => ⟨h.1, by rw [← h.2]; exact Below.refl _ _⟩
theorem mxS_stS {n : Int} {s : Sg} {T : List Sg} {j : Nat} {x : Sg} (hx : T[j]? = some x) : extV true (mxS n s (T.take j)) (howS s x) = mxS n s (T.take (j + 1)) := by
  rw [List.take_add_one, hx]; exact (mxS_snoc _ _ _ _).symm
theorem mtV_stS {S T : List Sg} {i : Nat} {u : Sg} (hu : S[i]? = some u) : mxS (mtV (S.take i) T) u T = mtV (S.take (i + 1)) T := by
  rw [List.take_add_one, hu]; exact (mtV_snoc _ _ _).symm
set_option maxRecDepth 100000 in
set_option maxHeartbeats 1000000 in
theorem sPartsOf_any (a k r : Int) (s : ByteArray) (A : Option Addr) (c : Nat) (ps : List (Int × Int)) (w : World) (hs : SeesE 2 encPoint w w.heap.size A ps) (hl : ps.length ≤ 274877906944) (hm : s.size ≤ maxLen) :
    Calls Tryz.prog 26 #[FtV a k r s A ps.length c] w (GivesE 4 encSegment 78 (partsV (a, k, r, s, ps)) w) := by
  have HV := Lib.hid (Vars.of1 w (FtC a k r s A ps.length c) 41)
  have HS := Lib.hid ((hs.below HV.out.1).mono HV.out.1.size)
  clear hs
  go_enter Tryz.func26, Tryz.ntmps26
  cases hq : featV (a, k, r, s, ps)
  · have HP := Lib.hid (parts_no hq)
    go_wp2_with fail
    refine (sIsFeature_is a k r s A c ps _ _ HS.out hl hm hq).mono ?_
    rintro e w1 ⟨rfl, hb1⟩
    have HV := Lib.hid (HV.out.next hb1)
    clear hb1
    go_wp2
    go_ret
    exact ⟨_, _, [], Lib.hid HP.out.symm, rfl, (OwnE.lit w1 w1.heap.size 78 (Nat.le_refl _)).mono HV.out.1.size, HV.out.1.alloc HV.out.1.size _⟩
  · by_cases e2 : k = 2
    · subst e2
      have HP := Lib.hid (parts_2 hq)
      go_wp2_with fail
      refine (sIsFeature_is a 2 r s A c ps _ _ HS.out hl hm hq).mono ?_
      rintro e w1 ⟨rfl, hb1⟩
      have HS1 := Lib.hid (HS.out.belowAll hb1)
      have HV := Lib.hid (HV.out.next hb1)
      clear hb1
      obtain ⟨k0, k1, k2, k3, k4⟩ := HV.out.c50
      go_wp2_with fail
      refine (sSegmentsOf_any A c ps _ HS1.out (by omega)).mono ?_
      rintro e w2 ⟨A2, c2, L, hL, rfl, ho2, hb2⟩
      have HO := Lib.hid (ho2.mono HV.out.1.size)
      have HV := Lib.hid (HV.out.next hb2)
      clear ho2 hb2
      go_wp2
      go_ret
      exact ⟨A2, c2, L, Lib.hid (by rw [hL.out, HP.out]), rfl, HO.out, HV.out.1⟩
    by_cases e3 : k = 3
    · subst e3
      have HP := Lib.hid (parts_3 hq)
      go_wp2_with fail
      refine (sIsFeature_is a 3 r s A c ps _ _ HS.out hl hm hq).mono ?_
      rintro e w1 ⟨rfl, hb1⟩
      have HS1 := Lib.hid (HS.out.belowAll hb1)
      have HV := Lib.hid (HV.out.next hb1)
      clear hb1
      obtain ⟨k0, k1, k2, k3, k4⟩ := HV.out.c50
      go_wp2_with fail
      refine (sRingSegments_any A c ps _ HS1.out hl).mono ?_
      rintro e w2 ⟨A2, c2, L, hL, rfl, ho2, hb2⟩
      have HO := Lib.hid (ho2.mono HV.out.1.size)
      have HV := Lib.hid (HV.out.next hb2)
      clear ho2 hb2
      go_wp2
      go_ret
      exact ⟨A2, c2, L, Lib.hid (by rw [hL.out, HP.out]), rfl, HO.out, HV.out.1⟩
    have HP := Lib.hid (parts_0 (a := a) (r := r) (s := s) (ps := ps) e2 e3)
    go_wp2_with fail
    refine (sIsFeature_is a k r s A c ps _ _ HS.out hl hm hq).mono ?_
    rintro e w1 ⟨rfl, hb1⟩
    have HV := Lib.hid (HV.out.next hb1)
    clear hb1
    obtain ⟨k0, k1, k2, k3, k4⟩ := HV.out.c50
    go_wp2
    go_ret
    exact ⟨_, _, [], Lib.hid HP.out.symm, rfl, (OwnE.lit w1 w1.heap.size 78 (Nat.le_refl _)).mono HV.out.1.size, HV.out.1.alloc HV.out.1.size _⟩
set_option maxRecDepth 100000 in
set_option maxHeartbeats 8000000 in
theorem sFeaturesMeet_is (a k r : Int) (s : ByteArray) (A : Option Addr) (c : Nat) (ps : List (Int × Int)) (a' k' r' : Int) (s' : ByteArray) (A' : Option Addr) (c' : Nat) (ps' : List (Int × Int)) (z : Int) (w : World)
    (hs : SeesE 2 encPoint w w.heap.size A ps) (hl : ps.length ≤ 274877906944) (hm : s.size ≤ maxLen)
    (hs' : SeesE 2 encPoint w w.heap.size A' ps') (hl' : ps'.length ≤ 274877906944) (hm' : s'.size ≤ maxLen) (hz : meetF (a, k, r, s, ps) (a', k', r', s', ps') = z) :
    Calls Tryz.prog 71 #[FtV a k r s A ps.length c, FtV a' k' r' s' A' ps'.length c'] w fun e w' => e = .returned (.int .i64 z) ∧ Below w.heap.size w w' := by
  have HV := Lib.hid (Vars.of2 w (FtC a k r s A ps.length c) (FtC a' k' r' s' A' ps'.length c') 41 41)
  have HS := Lib.hid ((hs.below HV.out.1).mono HV.out.1.size); have HS' := Lib.hid ((hs'.below HV.out.1).mono HV.out.1.size)
  have HZ0 := Lib.hid hz
  clear hs hs' hz
  go_enter Tryz.func71, Tryz.ntmps71
  go_wp2_with fail
  refine (sPartsOf_any a k r s A c ps _ HS.out hl hm).mono ?_
  rintro e w1 ⟨A1, c1, L, hL, rfl, ho1, hb1⟩
  have HO1 := Lib.hid ho1; have HV1 := Lib.hid (HV.out.next hb1)
  have HS1 := Lib.hid (HS'.out.belowAll hb1)
  obtain ⟨k0, k1, k2, k3, k4⟩ : _ ∧ _ ∧ _ ∧ _ ∧ _ := ⟨HV1.out.cell (w.heap.size + 1) 1 0 rfl rfl rfl, HV1.out.cell (w.heap.size + 1) 1 1 rfl rfl rfl, HV1.out.cell (w.heap.size + 1) 1 2 rfl rfl rfl, HV1.out.cell (w.heap.size + 1) 1 3 rfl rfl rfl, HV1.out.cell (w.heap.size + 1) 1 4 rfl rfl rfl⟩
  clear ho1 hb1
  go_wp2_with fail
  refine (sPartsOf_any a' k' r' s' A' c' ps' _ HS1.out hl' hm').mono ?_
  rintro e w2 ⟨A2, c2, L2, hL2, rfl, ho2, hb2⟩
  have HO2 := Lib.hid ((HO1.out.belowAll hb2).mono HV.out.1.size); have HB2 := Lib.hid (HV1.out.next hb2).1; have HP2 := Lib.hid (ho2.mono HV1.out.1.size)
  clear ho2 hb2 HO1 k0 k1 k2 k3 k4
  have HZ : Hid (mtV L L2 = z) := Lib.hid (by rw [hL.out, hL2.out]; exact HZ0.out)
  have h9 : L.length ≤ 10 := by rw [hL.out]; exact parts_len _
  have h9' : L2.length ≤ 10 := by rw [hL2.out]; exact parts_len _
  clear HZ0 hL hL2
  go_wp2
  go_loopw [5, 8] (fun n i wr => ∃ j : Nat, j ≤ L.length ∧ n = .int .i64 (mtV (L.take j) L2) ∧ i = .int .i64 j ∧ Hid (OwnE 4 encSegment wr w.heap.size 78 (.slice A1 L.length c1) L) ∧ Hid (OwnE 4 encSegment wr w.heap.size 78 (.slice A2 L2.length c2) L2) ∧ Hid (Below w.heap.size w wr)) (fun _ i _ => L.length - (intOf i).toNat)
  case atStart => exact ⟨0, Nat.zero_le _, rfl, rfl, HO2, HP2, HB2⟩
  case round =>
    obtain ⟨i, hi, rfl, rfl, HO, HP, HB⟩ := hrel
    clear HO2 HP2 HB2
    by_cases hlt : i < L.length
    · have hli : (i : Int) < (L.length : Int) := by omega
      obtain ⟨u, hu⟩ : ∃ u, L[i]? = some u := ⟨_, List.getElem?_eq_getElem hlt⟩
      obtain ⟨N, hN⟩ : ∃ N, mtV (L.take i) L2 = N := ⟨_, rfl⟩
      have HT : Hid (mxS N u L2 = mtV (L.take (i + 1)) L2) := Lib.hid (by rw [← hN]; exact mtV_stS hu)
      have HU := Lib.hid hu
      rw [hN]
      clear hu hN
      go_wp2
      go_loopw [5, 9] (fun n k wx => ∃ j : Nat, j ≤ L2.length ∧ n = .int .i64 (mxS N u (L2.take j)) ∧ k = .int .i64 j ∧ Hid (OwnE 4 encSegment wx w.heap.size 78 (.slice A1 L.length c1) L) ∧ Hid (OwnE 4 encSegment wx w.heap.size 78 (.slice A2 L2.length c2) L2) ∧ Hid (Below w.heap.size w wx)) (fun _ k _ => L2.length - (intOf k).toNat)
      case atStart => exact ⟨0, Nat.zero_le _, rfl, rfl, HO, HP, HB⟩
      case round =>
        obtain ⟨j, hj, rfl, rfl, HO, HP, HB⟩ := hrel
        by_cases hlj : j < L2.length
        · have hlj' : (j : Int) < (L2.length : Int) := by omega
          obtain ⟨b, off, -, rfl, hbl, -, -⟩ := (HO.out.sees elSegment).lt hlt
          obtain ⟨b', off', v, rfl, hbl', hv, -⟩ := (HP.out.sees elSegment).lt hlj
          obtain ⟨k0, k1, k2, k3⟩ := cells4 (HO.out.sees elSegment) HU.out
          obtain ⟨k4, k5, k6, k7⟩ := cells4 (HP.out.sees elSegment) hv
          have HV := Lib.hid hv
          obtain ⟨M, hM⟩ : ∃ M, mxS N u (L2.take j) = M := ⟨_, rfl⟩
          obtain ⟨m, hm⟩ : ∃ m, howS u v = m := ⟨_, rfl⟩
          have HX : Hid (extV true M m = mxS N u (L2.take (j + 1))) := Lib.hid (by rw [← hM, ← hm]; exact mxS_stS hv)
          rw [hM]
          clear hv hM
          obtain ⟨x, hx⟩ : ∃ x, extV true M m = x := ⟨_, rfl⟩
          rw [hx] at HX
          go_wp2
          go_region_held3 (fun w' => (w'.cell? ⟨b, off + i * 4, none⟩ = some (.int .i64 u.1) ∧ w'.cell? ⟨b, off + i * 4 + 1, none⟩ = some (.int .i64 u.2.1) ∧ w'.cell? ⟨b, off + i * 4 + 2, none⟩ = some (.int .i64 u.2.2.1) ∧ w'.cell? ⟨b, off + i * 4 + 3, none⟩ = some (.int .i64 u.2.2.2)) ∧ (w'.cell? ⟨b', off' + j * 4, none⟩ = some (.int .i64 v.1) ∧ w'.cell? ⟨b', off' + j * 4 + 1, none⟩ = some (.int .i64 v.2.1) ∧ w'.cell? ⟨b', off' + j * 4 + 2, none⟩ = some (.int .i64 v.2.2.1) ∧ w'.cell? ⟨b', off' + j * 4 + 3, none⟩ = some (.int .i64 v.2.2.2))) (first | exact ⟨⟨k0, k1, k2, k3⟩, ⟨k4, k5, k6, k7⟩⟩ | exact hQ | exact hQ2) (first
            | (go_at_call 113; refine (sHowS_is u v _ _ hm).mono ?_; rintro e w9 ⟨rfl, hb9⟩; have HB9 := Lib.hid (HB.out.drew.trans (hb9.mono HB.out.size)); have HO9 := Lib.hid ((HO.out.drew).belowAll hb9); have HP9 := Lib.hid ((HP.out.drew).belowAll hb9); have hQ := And.intro (cells4 (HO9.out.sees elSegment) HU.out) (cells4 (HP9.out.sees elSegment) HV.out))
            | (go_at_call 112; refine (smaxW_is M m x _ hx).mono ?_; rintro e w8 ⟨rfl, hb8⟩; have HB8 := Lib.hid (HB9.out.trans (hb8.mono HB9.out.size)); have HO8 := Lib.hid (HO9.out.belowAll hb8); have HP8 := Lib.hid (HP9.out.belowAll hb8); have hQ2 := And.intro (cells4 (HO8.out.sees elSegment) HU.out) (cells4 (HP8.out.sees elSegment) HV.out)) | fail)
          all_goals
            go_wp2
            go_roundw
            case rel => exact ⟨j + 1, by omega, by rw [← HX.out], by go_num, HO8, HP8, HB8⟩
            case measure => simp [intOf]; omega
        · obtain rfl : j = L2.length := by omega
          rw [List.take_length]
          go_wp2
          go_roundw
          case rel => exact ⟨i + 1, by omega, by rw [← HT.out], by go_num, HO, HP, HB⟩
          case measure => simp [intOf]; omega
    · obtain rfl : i = L.length := by omega
      rw [List.take_length]
      go_wp2
      go_ret
      exact ⟨by rw [← HZ.out]; rfl, HB.out⟩
end Go.Proofs.YtbnjaaegbmhopaaGreatDoor
end
section
/- Features: IsSource of the model. -/
namespace Go.Proofs.YtbnjaaegbmhopaaGreatDoor
open Go.ChangeShapes Go.WideShapes Go.ChangeAt Go.RowKit
set_option linter.unusedVariables false

def isSrcT : List (Nat × Nat × Nat) := [(0, 11, 1), (0, 12, 8), (3, 13, 3072), (4, 14, 4096), (8, 15, 8192), (16, 16, 16384), (48, 17, 32768), (64, 18, 65544), (192, 19, 196608), (320, 20, 327680), (512, 21, 524289), (512, 22, 524296), (2560, 23, 2621440), (5632, 24, 5767168), (8704, 25, 8912896), (16896, 26, 17301504), (512, 27, 524289), (512, 28, 524296), (197120, 29, 201850880), (262656, 30, 268959744), (524800, 31, 537395200), (1081856, 32, 1107820544), (2097728, 33, 2148073472), (4194368, 34, 4295032832)]
def isSrcS : List (Nat × Bool) := [(0, true), (1, true), (2, true), (3, true), (4, false), (5, true), (6, true), (7, true), (8, true), (9, true), (10, true), (11, true), (12, true), (13, true), (14, true), (15, true), (16, true), (17, true), (18, true), (19, true), (20, true), (21, true), (22, true), (23, true)]
set_option maxRecDepth 100000 in
set_option maxHeartbeats 40000000 in
theorem sIsSource_is (A : Option Addr) (c : Nat) (l : List Feat) (w : World) (hs : SeesF w w.heap.size A l) (hl : l.length ≤ 1099511627776) (hp : SmallF l) (z : Bool) (hz : srcV l = z) :
    Calls Tryz.prog 70 #[.slice A l.length c] w fun e w' => e = .returned (.bool z) ∧ Below w.heap.size w w' := by
  have HS := Lib.hid hs; clear hs
  have HZ := Lib.hid hz; clear hz
  have HPs := Lib.hid hp; clear hp
  go_enter Tryz.func70, Tryz.ntmps70
  go_wp2
  go_loopw [3] (fun i wr => ∃ j : Nat, j ≤ l.length ∧ i = .int .i64 j ∧ Hid (SeenUp l j) ∧ Hid (Below w.heap.size w wr)) (fun i _ => l.length - (intOf i).toNat)
  case atStart => exact ⟨0, Nat.zero_le _, rfl, Lib.hid (seen_zero l), Lib.hid (Below.refl _ _)⟩
  case round =>
    obtain ⟨j, hj, rfl, HU, hb⟩ := hrel
    by_cases hlt : j < l.length
    · obtain ⟨⟨a, kd, rk, s, ps⟩, hf⟩ : ∃ f, l[j]? = some f := ⟨_, List.getElem?_eq_getElem hlt⟩
      obtain ⟨b, off, A', c', rfl, hbl, hss, hcap, hcell⟩ := HS.out.at_ hf
      have HSS := Lib.hid hss
      obtain ⟨hpl, hsz⟩ := HPs.out j _ hf
      dsimp only at hpl hsz
      have hji : (j : Int) < (l.length : Int) := by omega
      have HB := Lib.hid hb.out.drew
      have HC := Lib.hid hcell
      have HF := Lib.hid hf
      clear hss hcap hcell hf
      cases hq : featV (a, kd, rk, s, ps)
      · obtain rfl : false = z := (src_no1 HF.out hq).symm.trans HZ.out
        have HQ : Hid (∀ W, Below w.heap.size w W → (W.cell? ⟨b, off + j * 5, none⟩ = some (.int .i64 a) ∧ W.cell? ⟨b, off + j * 5 + 1, none⟩ = some (.int .i64 kd) ∧ W.cell? ⟨b, off + j * 5 + 2, none⟩ = some (.int .i64 rk) ∧ W.cell? ⟨b, off + j * 5 + 3, none⟩ = some (.string s) ∧ W.cell? ⟨b, off + j * 5 + 4, none⟩ = some (.slice A' ps.length c'))) := Lib.hid fun W hW => by
          obtain ⟨q0, q1, q2, q3, q4⟩ := HC.out
          exact ⟨(hW.cell (p := ⟨b, off + j * 5, none⟩) hbl).trans q0, (hW.cell (p := ⟨b, off + j * 5 + 1, none⟩) hbl).trans q1, (hW.cell (p := ⟨b, off + j * 5 + 2, none⟩) hbl).trans q2, (hW.cell (p := ⟨b, off + j * 5 + 3, none⟩) hbl).trans q3, (hW.cell (p := ⟨b, off + j * 5 + 4, none⟩) hbl).trans q4⟩
        go_upto_region 4 with fail
        refine wp_region_held_drew (S := (fun w' => (w'.cell? ⟨b, off + j * 5, none⟩ = some (.int .i64 a) ∧ w'.cell? ⟨b, off + j * 5 + 1, none⟩ = some (.int .i64 kd) ∧ w'.cell? ⟨b, off + j * 5 + 2, none⟩ = some (.int .i64 rk) ∧ w'.cell? ⟨b, off + j * 5 + 3, none⟩ = some (.string s) ∧ w'.cell? ⟨b, off + j * 5 + 4, none⟩ = some (.slice A' ps.length c')))) (by kernel_rfl) (HQ.out _ HB.out) (fun hHeld => ?_)
        refine to_lin (T := isSrcT) (n := 24) isSrcS ⟨by kernel_rfl, by kernel_rfl, by kernel_rfl⟩ (by kernel_rfl) (fun hTag => ?_)
        iterate 4 (refine lin_on (v := ?_) rfl (fun _ _ _ h => h) (by rfl) ?_ (by assumption) ?_; rotate_left; (· (intro wq hSw; go_simp; try with_reducible rfl)); try simp only [Act.put, List.setIfInBounds_toArray, List.set_cons_zero, List.set_cons_succ])
        refine lin_call rfl (by rfl) (fun K hK => ?_)
        go_simp
        go_at_call 62
        refine (sIsFeature_is a kd rk s A' c' ps _ _ ((HSS.out.below HB.out).mono HB.out.size) hpl hsz hq).mono ?_
        rintro e w9 ⟨rfl, hb9⟩
        have HB := Lib.hid (HB.out.trans (hb9.mono HB.out.size))
        clear hb9
        go_wp2_with fail
        refine hK.out _ _ ?_ (fun hHeld => ?_)
        · exact HQ.out _ HB.out
        clear hK K
        try simp only [Act.put, List.setIfInBounds_toArray, List.set_cons_zero, List.set_cons_succ]
        iterate 2 (refine lin_on (v := ?_) rfl (fun _ _ _ h => h) (by rfl) ?_ (by assumption) ?_; rotate_left; (· (intro wq hSw; go_simp; try with_reducible rfl)); try simp only [Act.put, List.setIfInBounds_toArray, List.set_cons_zero, List.set_cons_succ])
        iterate 16 (refine lin_off rfl (fun _ _ _ h => h) (by rfl) (by assumption) ?_; try simp only [Act.put, List.setIfInBounds_toArray, List.set_cons_zero, List.set_cons_succ])
        (refine lin_on (v := ?_) rfl (fun _ _ _ h => h) (by rfl) ?_ (by assumption) ?_; rotate_left; (· (intro wq hSw; go_simp; try with_reducible rfl)); try simp only [Act.put, List.setIfInBounds_toArray, List.set_cons_zero, List.set_cons_succ])
        refine lin_done ?_
        go_wp2
        go_ret
        exact ⟨rfl, HB.out⟩
      · cases j with
        | zero =>
          have HNx := Lib.hid (seen_step HU.out HF.out hq (fun g h0 => by omega))
          have HQ : Hid (∀ W, Below w.heap.size w W → (W.cell? ⟨b, off, none⟩ = some (.int .i64 a) ∧ W.cell? ⟨b, off + 1, none⟩ = some (.int .i64 kd) ∧ W.cell? ⟨b, off + 2, none⟩ = some (.int .i64 rk) ∧ W.cell? ⟨b, off + 3, none⟩ = some (.string s) ∧ W.cell? ⟨b, off + 4, none⟩ = some (.slice A' ps.length c'))) := Lib.hid fun W hW => by
            obtain ⟨q0, q1, q2, q3, q4⟩ := HC.out
            rw [Nat.zero_mul, Nat.add_zero] at q0 q1 q2 q3 q4
            exact ⟨(hW.cell (p := ⟨b, off, none⟩) hbl).trans q0, (hW.cell (p := ⟨b, off + 1, none⟩) hbl).trans q1, (hW.cell (p := ⟨b, off + 2, none⟩) hbl).trans q2, (hW.cell (p := ⟨b, off + 3, none⟩) hbl).trans q3, (hW.cell (p := ⟨b, off + 4, none⟩) hbl).trans q4⟩
          go_upto_region 4 with fail
          refine wp_region_held_drew (S := (fun w' => (w'.cell? ⟨b, off, none⟩ = some (.int .i64 a) ∧ w'.cell? ⟨b, off + 1, none⟩ = some (.int .i64 kd) ∧ w'.cell? ⟨b, off + 2, none⟩ = some (.int .i64 rk) ∧ w'.cell? ⟨b, off + 3, none⟩ = some (.string s) ∧ w'.cell? ⟨b, off + 4, none⟩ = some (.slice A' ps.length c')))) (by kernel_rfl) (HQ.out _ HB.out) (fun hHeld => ?_)
          refine to_lin (T := isSrcT) (n := 24) isSrcS ⟨by kernel_rfl, by kernel_rfl, by kernel_rfl⟩ (by kernel_rfl) (fun hTag => ?_)
          iterate 4 (refine lin_on (v := ?_) rfl (fun _ _ _ h => h) (by rfl) ?_ (by assumption) ?_; rotate_left; (· (intro wq hSw; go_simp; try with_reducible rfl)); try simp only [Act.put, List.setIfInBounds_toArray, List.set_cons_zero, List.set_cons_succ])
          refine lin_call rfl (by rfl) (fun K hK => ?_)
          go_simp
          go_at_call 62
          refine (sIsFeature_is a kd rk s A' c' ps _ _ ((HSS.out.below HB.out).mono HB.out.size) hpl hsz hq).mono ?_
          rintro e w9 ⟨rfl, hb9⟩
          have HB := Lib.hid (HB.out.trans (hb9.mono HB.out.size))
          clear hb9
          go_wp2_with fail
          refine hK.out _ _ ?_ (fun hHeld => ?_)
          · exact HQ.out _ HB.out
          clear hK K
          try simp only [Act.put, List.setIfInBounds_toArray, List.set_cons_zero, List.set_cons_succ]
          iterate 5 (refine lin_on (v := ?_) rfl (fun _ _ _ h => h) (by rfl) ?_ (by assumption) ?_; rotate_left; (· (intro wq hSw; go_simp; try with_reducible rfl)); try simp only [Act.put, List.setIfInBounds_toArray, List.set_cons_zero, List.set_cons_succ])
          iterate 12 (refine lin_off rfl (fun _ _ _ h => h) (by rfl) (by assumption) ?_; try simp only [Act.put, List.setIfInBounds_toArray, List.set_cons_zero, List.set_cons_succ])
          iterate 2 (refine lin_on (v := ?_) rfl (fun _ _ _ h => h) (by rfl) ?_ (by assumption) ?_; rotate_left; (· (intro wq hSw; go_simp; try with_reducible rfl)); try simp only [Act.put, List.setIfInBounds_toArray, List.set_cons_zero, List.set_cons_succ])
          refine lin_done ?_
          go_wp2
          go_roundw
          case rel => exact ⟨0 + 1, by omega, by go_num, HNx, HB⟩
          case measure => simp [intOf]; omega
        | succ k =>
          obtain ⟨⟨g0, g1, g2, g3, g4⟩, hg⟩ : ∃ f, l[k]? = some f := ⟨_, List.getElem?_eq_getElem (by omega)⟩
          obtain ⟨b2, off2, -, -, e, hbl2, -, -, hgc, -⟩ := HS.out.at_ hg
          simp only [Option.some.injEq, Addr.mk.injEq, and_true] at e
          obtain ⟨rfl, rfl⟩ := e
          have HG := Lib.hid hg
          have HGC := Lib.hid hgc
          clear hg hgc
          have HQ : Hid (∀ W, Below w.heap.size w W → (W.cell? ⟨b, off + (k + 1) * 5, none⟩ = some (.int .i64 a) ∧ W.cell? ⟨b, off + (k + 1) * 5 + 1, none⟩ = some (.int .i64 kd) ∧ W.cell? ⟨b, off + (k + 1) * 5 + 2, none⟩ = some (.int .i64 rk) ∧ W.cell? ⟨b, off + (k + 1) * 5 + 3, none⟩ = some (.string s) ∧ W.cell? ⟨b, off + (k + 1) * 5 + 4, none⟩ = some (.slice A' ps.length c')) ∧ W.cell? ⟨b, off + k * 5, none⟩ = some (.int .i64 g0)) := Lib.hid fun W hW => by
            obtain ⟨q0, q1, q2, q3, q4⟩ := HC.out
            exact ⟨⟨(hW.cell (p := ⟨b, off + (k + 1) * 5, none⟩) hbl).trans q0, (hW.cell (p := ⟨b, off + (k + 1) * 5 + 1, none⟩) hbl).trans q1, (hW.cell (p := ⟨b, off + (k + 1) * 5 + 2, none⟩) hbl).trans q2, (hW.cell (p := ⟨b, off + (k + 1) * 5 + 3, none⟩) hbl).trans q3, (hW.cell (p := ⟨b, off + (k + 1) * 5 + 4, none⟩) hbl).trans q4⟩, (hW.cell (p := ⟨b, off + k * 5, none⟩) hbl).trans HGC.out⟩
          have e1 : ((k + 1 : Nat) : Int) = (k : Int) + 1 := by omega
          rw [e1] at hji ⊢
          have hw : IntKind.i64.wrap (k : Int) = k := IntWalk.i64_in _ (by omega)
          have hpos : (0 : Int) < (k : Int) + 1 := by omega
          have hnn : (0 : Int) ≤ (k : Int) + 1 := by omega
          have hkl : (k : Int) < (l.length : Int) := by omega
          by_cases hle : a ≤ g0
          · obtain rfl : false = z := (src_no2 (j := k + 1) (by omega) (by rw [Nat.add_sub_cancel]; exact HG.out) HF.out hle).symm.trans HZ.out
            go_upto_region 4 with fail
            refine wp_region_held_drew (S := (fun w' => (w'.cell? ⟨b, off + (k + 1) * 5, none⟩ = some (.int .i64 a) ∧ w'.cell? ⟨b, off + (k + 1) * 5 + 1, none⟩ = some (.int .i64 kd) ∧ w'.cell? ⟨b, off + (k + 1) * 5 + 2, none⟩ = some (.int .i64 rk) ∧ w'.cell? ⟨b, off + (k + 1) * 5 + 3, none⟩ = some (.string s) ∧ w'.cell? ⟨b, off + (k + 1) * 5 + 4, none⟩ = some (.slice A' ps.length c')) ∧ w'.cell? ⟨b, off + k * 5, none⟩ = some (.int .i64 g0))) (by kernel_rfl) (HQ.out _ HB.out) (fun hHeld => ?_)
            refine to_lin (T := isSrcT) (n := 24) isSrcS ⟨by kernel_rfl, by kernel_rfl, by kernel_rfl⟩ (by kernel_rfl) (fun hTag => ?_)
            iterate 4 (refine lin_on (v := ?_) rfl (fun _ _ _ h => h) (by rfl) ?_ (by assumption) ?_; rotate_left; (· (intro wq hSw; go_simp; try with_reducible rfl)); try simp only [Act.put, List.setIfInBounds_toArray, List.set_cons_zero, List.set_cons_succ])
            refine lin_call rfl (by rfl) (fun K hK => ?_)
            go_simp
            go_at_call 62
            refine (sIsFeature_is a kd rk s A' c' ps _ _ ((HSS.out.below HB.out).mono HB.out.size) hpl hsz hq).mono ?_
            rintro e w9 ⟨rfl, hb9⟩
            have HB := Lib.hid (HB.out.trans (hb9.mono HB.out.size))
            clear hb9
            go_wp2_with fail
            refine hK.out _ _ ?_ (fun hHeld => ?_)
            · exact HQ.out _ HB.out
            clear hK K
            try simp only [Act.put, List.setIfInBounds_toArray, List.set_cons_zero, List.set_cons_succ]
            iterate 19 (refine lin_on (v := ?_) rfl (fun _ _ _ h => h) (by rfl) ?_ (by assumption) ?_; rotate_left; (· (intro wq hSw; go_simp; try with_reducible rfl)); try simp only [Act.put, List.setIfInBounds_toArray, List.set_cons_zero, List.set_cons_succ])
            refine lin_done ?_
            go_wp2
            go_ret
            exact ⟨rfl, HB.out⟩
          · have HNx := Lib.hid (seen_step HU.out HF.out hq (fun g h0 hg => by
              rw [Nat.add_sub_cancel] at hg
              obtain rfl : g = (g0, g1, g2, g3, g4) := Option.some.inj (hg.symm.trans HG.out)
              show g0 < a
              omega))
            go_upto_region 4 with fail
            refine wp_region_held_drew (S := (fun w' => (w'.cell? ⟨b, off + (k + 1) * 5, none⟩ = some (.int .i64 a) ∧ w'.cell? ⟨b, off + (k + 1) * 5 + 1, none⟩ = some (.int .i64 kd) ∧ w'.cell? ⟨b, off + (k + 1) * 5 + 2, none⟩ = some (.int .i64 rk) ∧ w'.cell? ⟨b, off + (k + 1) * 5 + 3, none⟩ = some (.string s) ∧ w'.cell? ⟨b, off + (k + 1) * 5 + 4, none⟩ = some (.slice A' ps.length c')) ∧ w'.cell? ⟨b, off + k * 5, none⟩ = some (.int .i64 g0))) (by kernel_rfl) (HQ.out _ HB.out) (fun hHeld => ?_)
            refine to_lin (T := isSrcT) (n := 24) isSrcS ⟨by kernel_rfl, by kernel_rfl, by kernel_rfl⟩ (by kernel_rfl) (fun hTag => ?_)
            iterate 4 (refine lin_on (v := ?_) rfl (fun _ _ _ h => h) (by rfl) ?_ (by assumption) ?_; rotate_left; (· (intro wq hSw; go_simp; try with_reducible rfl)); try simp only [Act.put, List.setIfInBounds_toArray, List.set_cons_zero, List.set_cons_succ])
            refine lin_call rfl (by rfl) (fun K hK => ?_)
            go_simp
            go_at_call 62
            refine (sIsFeature_is a kd rk s A' c' ps _ _ ((HSS.out.below HB.out).mono HB.out.size) hpl hsz hq).mono ?_
            rintro e w9 ⟨rfl, hb9⟩
            have HB := Lib.hid (HB.out.trans (hb9.mono HB.out.size))
            clear hb9
            go_wp2_with fail
            refine hK.out _ _ ?_ (fun hHeld => ?_)
            · exact HQ.out _ HB.out
            clear hK K
            try simp only [Act.put, List.setIfInBounds_toArray, List.set_cons_zero, List.set_cons_succ]
            iterate 19 (refine lin_on (v := ?_) rfl (fun _ _ _ h => h) (by rfl) ?_ (by assumption) ?_; rotate_left; (· (intro wq hSw; go_simp; try with_reducible rfl)); try simp only [Act.put, List.setIfInBounds_toArray, List.set_cons_zero, List.set_cons_succ])
            refine lin_done ?_
            go_wp2
            go_roundw
            case rel => exact ⟨(k + 1) + 1, by omega, by go_num, HNx, HB⟩
            case measure => simp [intOf]; omega
    · obtain rfl : j = l.length := by omega
      have HE := Lib.hid ((seen_all HU.out).symm.trans HZ.out)
      by_cases h16 : l.length ≤ 16
      · have h16' : (l.length : Int) ≤ 16 := by omega
        obtain rfl : true = z := by rw [← HE.out, decide_eq_true h16]
        clear h16
        go_wp2
        go_ret
        exact ⟨rfl, hb.out⟩
      · have h16' : ¬ (l.length : Int) ≤ 16 := by omega
        obtain rfl : false = z := by rw [← HE.out, decide_eq_false h16]
        clear h16
        go_wp2
        go_ret
        exact ⟨rfl, hb.out⟩
end Go.Proofs.YtbnjaaegbmhopaaGreatDoor
end
section
/- MeetsOf of the model. -/
namespace Go.Proofs.YtbnjaaegbmhopaaGreatDoor
open Go.ChangeShapes Go.WideShapes Go.ChangeAt Go.RowKit
set_option linter.unusedVariables false

theorem keepM {w : World} {p : Addr} {v : Value} (h : w.cell? p = some v) (o : Obj) : (w.alloc o).cell? p = some v :=
  (World.cell?_of_block (Below.heap_alloc _ _ _ (World.block_lt_of_cell? w p h))).trans h
theorem sizeM (w : World) (o : Obj) : w.heap.size ≤ (w.alloc o).heap.size := by simp
set_option maxRecDepth 100000 in
set_option maxHeartbeats 8000000 in
theorem sMeetsOf_any (A : Option Addr) (c : Nat) (l : List Feat) (w : World) (hs : SeesF w w.heap.size A l) (hl : l.length ≤ 1099511627776) (hp : SmallF l) :
    Calls Tryz.prog 35 #[.slice A l.length c] w (GivesE 3 encMeet 93 (meetsV l) w) := by
  have HS := Lib.hid hs; have HP := Lib.hid hp
  clear hs hp
  obtain ⟨z, hz⟩ : ∃ z, srcV l = z := ⟨_, rfl⟩
  have HZ := Lib.hid hz
  clear hz
  go_enter Tryz.func35, Tryz.ntmps35
  go_wp2
  go_loopw [3, 4] (fun v i wr => ∃ (j : Nat) (A1 : Option Addr) (c1 : Nat) (L : List Mt3), j ≤ l.length ∧ v = .slice A1 L.length c1 ∧ i = .int .i64 j ∧ Hid (L = mAll l j) ∧ Hid (OwnE 3 encMeet wr w.heap.size 93 (.slice A1 L.length c1) L) ∧ Hid (Below w.heap.size w wr) ∧ Hid (j = 0 ∨ z = true)) (fun _ i _ => l.length - (intOf i).toNat)
  case atStart => exact ⟨0, _, _, [], Nat.zero_le _, rfl, rfl, Lib.hid rfl, Lib.hid (OwnE.lit w _ _ (Nat.le_refl _)), Lib.hid ((Below.refl _ _).alloc (Nat.le_refl _) _), Lib.hid (.inl rfl)⟩
  case round =>
    obtain ⟨j, A1, c1, L, hj, rfl, rfl, HL, HO, HB, HJ⟩ := hrel
    by_cases hlt : j < l.length
    · have hlt' : (j : Int) < (l.length : Int) := by omega
      cases z
      · go_wp2_with fail
        refine (sIsSource_is A c l _ ((HS.out.below HB.out).mono HB.out.size) hl HP.out _ HZ.out).mono ?_
        rintro e w9 ⟨rfl, hb9⟩
        go_wp2
        go_ret
        obtain rfl : j = 0 := by rcases HJ.out with h | h; exact h; cases h
        exact ⟨A1, c1, L, Lib.hid (by rw [HL.out, meets_no HZ.out, mAll_zero]), rfl, HO.out.belowAll hb9, HB.out.trans (hb9.mono HB.out.size)⟩
      · have HL16 := Lib.hid (src_len HZ.out)
        have hw : IntKind.i64.wrap ((j : Int) + 1) = (j : Int) + 1 := IntWalk.i64_in _ (by have := HL16.out; omega)
        go_wp2_with fail
        refine (sIsSource_is A c l _ ((HS.out.below HB.out).mono HB.out.size) hl HP.out _ HZ.out).mono ?_
        rintro e w9 ⟨rfl, hb9⟩
        have HO := Lib.hid (HO.out.belowAll hb9)
        have HB := Lib.hid (HB.out.trans (hb9.mono HB.out.size))
        obtain ⟨⟨fa, fk, fr, fs, fp⟩, hf⟩ : ∃ f, l[j]? = some f := ⟨_, List.getElem?_eq_getElem hlt⟩
        have HF := Lib.hid hf
        clear hb9 hf
        go_wp2
        go_loopw [3, 5, 6] (fun v k _ wx => ∃ (d : Nat) (A2 : Option Addr) (c2 : Nat) (L2 : List Mt3), d ≤ l.length - (j + 1) ∧ v = .slice A2 L2.length c2 ∧ k = .int .i64 ((j + 1 + d : Nat) : Int) ∧ Hid (L2 = mAll l j ++ mRow l j d) ∧ Hid (OwnE 3 encMeet wx w.heap.size 93 (.slice A2 L2.length c2) L2) ∧ Hid (Below w.heap.size w wx)) (fun _ k _ _ => l.length - (intOf k).toNat)
        case atStart => exact ⟨0, A1, c1, L, Nat.zero_le _, rfl, by go_num, Lib.hid (by rw [mRow_zero, List.append_nil]; exact HL.out), HO, HB⟩
        case round =>
          obtain ⟨d, A2, c2, L2, hd, rfl, rfl, HL2, HO2, HB2⟩ := hrel
          obtain ⟨k, hk⟩ : ∃ k, j + 1 + d = k := ⟨_, rfl⟩
          have HK := Lib.hid hk
          have hkd : k ≤ l.length := by omega
          have hjk : j < k := by omega
          rw [hk]
          by_cases hlk : k < l.length
          · have hlk' : (k : Int) < (l.length : Int) := by omega
            have hd1 : d + 1 ≤ l.length - (j + 1) := by omega
            obtain ⟨⟨ga, gk, gr, gs, gp⟩, hg⟩ : ∃ f, l[k]? = some f := ⟨_, List.getElem?_eq_getElem hlk⟩
            obtain ⟨b, off, A', c', rfl, hbl, hss, hcap, hcell⟩ := HS.out.at_ HF.out
            obtain ⟨b2, off2, A'', c'', e, hbl2, hss2, hcap2, hcell2⟩ := HS.out.at_ hg
            simp only [Option.some.injEq, Addr.mk.injEq, and_true] at e
            obtain ⟨rfl, rfl⟩ := e
            obtain ⟨hpl, hsz⟩ := HP.out j _ HF.out
            obtain ⟨hpl2, hsz2⟩ := HP.out k _ hg
            dsimp only at hpl hsz hpl2 hsz2
            have HBd := Lib.hid HB2.out.drew
            have HSS := Lib.hid ((hss.below HBd.out).mono HBd.out.size)
            have HSS2 := Lib.hid ((hss2.below HBd.out).mono HBd.out.size)
            have HQ : Hid (∀ W, Below w.heap.size w W → (W.cell? ⟨b, off + j * 5, none⟩ = some (.int .i64 fa) ∧ W.cell? ⟨b, off + j * 5 + 1, none⟩ = some (.int .i64 fk) ∧ W.cell? ⟨b, off + j * 5 + 2, none⟩ = some (.int .i64 fr) ∧ W.cell? ⟨b, off + j * 5 + 3, none⟩ = some (.string fs) ∧ W.cell? ⟨b, off + j * 5 + 4, none⟩ = some (.slice A' fp.length c')) ∧
                (W.cell? ⟨b, off + k * 5, none⟩ = some (.int .i64 ga) ∧ W.cell? ⟨b, off + k * 5 + 1, none⟩ = some (.int .i64 gk) ∧ W.cell? ⟨b, off + k * 5 + 2, none⟩ = some (.int .i64 gr) ∧ W.cell? ⟨b, off + k * 5 + 3, none⟩ = some (.string gs) ∧ W.cell? ⟨b, off + k * 5 + 4, none⟩ = some (.slice A'' gp.length c''))) := Lib.hid fun W hW =>
              ⟨⟨(hW.cell (p := ⟨b, off + j * 5, none⟩) hbl).trans hcell.1, (hW.cell (p := ⟨b, off + j * 5 + 1, none⟩) hbl).trans hcell.2.1, (hW.cell (p := ⟨b, off + j * 5 + 2, none⟩) hbl).trans hcell.2.2.1, (hW.cell (p := ⟨b, off + j * 5 + 3, none⟩) hbl).trans hcell.2.2.2.1, (hW.cell (p := ⟨b, off + j * 5 + 4, none⟩) hbl).trans hcell.2.2.2.2⟩,
                ⟨(hW.cell (p := ⟨b, off + k * 5, none⟩) hbl).trans hcell2.1, (hW.cell (p := ⟨b, off + k * 5 + 1, none⟩) hbl).trans hcell2.2.1, (hW.cell (p := ⟨b, off + k * 5 + 2, none⟩) hbl).trans hcell2.2.2.1, (hW.cell (p := ⟨b, off + k * 5 + 3, none⟩) hbl).trans hcell2.2.2.2.1, (hW.cell (p := ⟨b, off + k * 5 + 4, none⟩) hbl).trans hcell2.2.2.2.2⟩⟩
            have HQ0 := Lib.hid (HQ.out _ HB2.out)
            have HQd := Lib.hid (HQ.out _ HBd.out)
            have HG := Lib.hid hg
            clear hss hss2 hcell hcell2 hg hcap hcap2
            obtain ⟨m, hm⟩ : ∃ m, meetF (fa, fk, fr, fs, fp) (ga, gk, gr, gs, gp) = m := ⟨_, rfl⟩
            have HM := Lib.hid hm
            clear hm
            go_upto_region 8 with fail
            go_cut [6] (fun s6 wx => s6 = .int .i64 m ∧ Hid (OwnE 3 encMeet wx w.heap.size 93 (.slice A2 L2.length c2) L2) ∧ Hid (Below w.heap.size w wx))
            case first =>
              go_region_held3 (fun w' => (w'.cell? ⟨b, off + j * 5, none⟩ = some (.int .i64 fa) ∧ w'.cell? ⟨b, off + j * 5 + 1, none⟩ = some (.int .i64 fk) ∧ w'.cell? ⟨b, off + j * 5 + 2, none⟩ = some (.int .i64 fr) ∧ w'.cell? ⟨b, off + j * 5 + 3, none⟩ = some (.string fs) ∧ w'.cell? ⟨b, off + j * 5 + 4, none⟩ = some (.slice A' fp.length c')) ∧
                  (w'.cell? ⟨b, off + k * 5, none⟩ = some (.int .i64 ga) ∧ w'.cell? ⟨b, off + k * 5 + 1, none⟩ = some (.int .i64 gk) ∧ w'.cell? ⟨b, off + k * 5 + 2, none⟩ = some (.int .i64 gr) ∧ w'.cell? ⟨b, off + k * 5 + 3, none⟩ = some (.string gs) ∧ w'.cell? ⟨b, off + k * 5 + 4, none⟩ = some (.slice A'' gp.length c'')))
                (first | with_reducible exact HQ0.out | with_reducible exact HQd.out | with_reducible exact hQ1.out) (first
                | (go_at_call 71; (with_reducible refine (sFeaturesMeet_is fa fk fr fs A' c' fp ga gk gr gs A'' c'' gp m _ HSS.out hpl hsz HSS2.out hpl2 hsz2 HM.out).mono ?_); rintro e w9 ⟨rfl, hb9⟩; have HB9 := Lib.hid (HBd.out.trans (hb9.mono HBd.out.size)); have HO9 := Lib.hid (HO2.out.drew.belowAll hb9); have hQ1 := Lib.hid (HQ.out _ HB9.out)) | fail)
              all_goals
                go_wp2_with fail
                go_meet
                exact ⟨rfl, HO9, HB9⟩
            case rest =>
            obtain ⟨rfl, HO3, HB3⟩ := hcut
            clear HQ0 HQd HBd HSS HSS2 HO2 HB2
            by_cases h0 : m = 0
            · subst h0
              have HN : Hid (L2 = mAll l j ++ mRow l j (d + 1)) := Lib.hid (by rw [HL2.out, mRow_step, HK.out, mOne_no HF.out HG.out HM.out, List.append_nil])
              go_wp2
              go_roundw
              case rel => exact ⟨d + 1, A2, c2, L2, hd1, rfl, by have := HK.out; go_num, HN, HO3, HB3⟩
              case measure => simp [intOf]; omega
            · have HN : Hid (∀ L3, L3 = L2 ++ [(fa, ga, m)] → L3 = mAll l j ++ mRow l j (d + 1)) := Lib.hid (fun L3 h => by rw [h, HL2.out, mRow_step, HK.out, mOne_yes HF.out HG.out (by rw [HM.out]; exact h0), HM.out, List.append_assoc])
              have hL63 : L2.length + [(fa, ga, m)].length ≤ 1099511627776 := by
                have := mAll_256 (l := l) HL16.out (n := j) (d := d) (by omega) (by omega)
                rw [← HL2.out] at this
                simp; omega
              have hz3 := HB3.out.size
              obtain ⟨q0, -⟩ := (HQ.out _ HB3.out).1
              obtain ⟨q1, -⟩ := (HQ.out _ HB3.out).2
              have HOd := Lib.hid HO3.out.drew
              clear HQ
              go_upto_region 10 with fail
              go_region_held3 (fun w' => w'.cell? ⟨b, off + j * 5, none⟩ = some (.int .i64 fa) ∧ w'.cell? ⟨b, off + k * 5, none⟩ = some (.int .i64 ga)) (first | exact ⟨q0, q1⟩ | exact ⟨keepM q0 _, keepM q1 _⟩ | exact hc4) (first
                | (refine stepMt _ _ _ (by rfl) w.heap.size _ L2 (by rfl) (HOd.out.alloc _) _ _ 1 _ [(fa, ga, m)] (by rfl) (by rfl) (seesE_new elMeet _ (fa, ga, m) _ _ _ (Nat.lt_succ_self _) rfl) hL63 (Nat.le_trans hz3 (sizeM _ _)) ?_; intro A4 c4 L4 w4 hL4 h1 h2 ho4 hb4; have hc4 := And.intro ((hb4.cell (p := ⟨b, off + j * 5, none⟩) hbl).trans (keepM q0 _)) ((hb4.cell (p := ⟨b, off + k * 5, none⟩) hbl).trans (keepM q1 _))) | fail)
              all_goals
                go_wp2
                go_roundw
                case rel => exact ⟨d + 1, A4, c4, L4, hd1, rfl, by have := HK.out; go_num, Lib.hid (HN.out _ hL4.out), Lib.hid ho4, Lib.hid (HB3.out.trans ((((Below.refl _ _).alloc hz3 _).drew).trans hb4))⟩
                case measure => simp [intOf]; omega
          · obtain rfl : k = l.length := by omega
            have hlk' : ¬ (l.length : Int) < (l.length : Int) := by omega
            have HN : Hid (L2 = mAll l (j + 1)) := Lib.hid (by rw [HL2.out, mAll_step, show d = l.length - (j + 1) by omega])
            clear hk
            go_wp2
            go_roundw
            case rel => exact ⟨j + 1, A2, c2, L2, by omega, rfl, by go_num, HN, HO2, HB2, Lib.hid (by simp)⟩
            case measure => simp [intOf]; omega
    · obtain rfl : j = l.length := by omega
      have hlt' : ¬ (l.length : Int) < (l.length : Int) := by omega
      go_wp2
      go_ret
      refine ⟨A1, c1, L, Lib.hid ?_, rfl, HO.out, HB.out⟩
      rw [HL.out]
      cases hz : srcV l
      · obtain h0 : l.length = 0 := by
          rcases HJ.out with h | h
          · exact h
          · rw [← HZ.out, hz] at h; cases h
        rw [h0, mAll_zero, meets_no hz]
      · rw [meets_yes hz]
end Go.Proofs.YtbnjaaegbmhopaaGreatDoor
end
section
/- What the statements list of errNoRing, as the walks read it. -/
namespace Go.Proofs.YtbnjaaegbmhopaaGreatDoor
open Go.ChangeShapes Go.WideShapes Go.ChangeAt Go.RowKit Go.Stop
set_option linter.unusedVariables false
set_option maxRecDepth 100000

theorem errName : Tryz.prog.globalNamed "loop.example/g03005/impl.errNoRing" = some 0 := by kernel_rfl
theorem errType : (Tryz.prog.globals[0]?).map (·.type) = some 73 := by kernel_rfl
theorem errStar : "*" ++ "errors.errorString" = "*errors.errorString" := by decide
theorem errRow (u : TypeId) (h : Tryz.prog.typeName? 3 u = some "*errors.errorString") : u = 221 :=
  typeName_ptr_named (nm := "errors.errorString") (by rw [errStar]; kernel_rfl) (by kernel_rfl) (by decide) u (by rw [errStar]; exact h)
theorem errCells : Tryz.prog.cellsOf 246 = 1 := by kernel_rfl
theorem strCells : Tryz.prog.cellsOf 9 = 1 := by kernel_rfl
theorem errAt_of {w : World} (hL : laidMet Tryz.prog [("loop.example/g03005/impl.errNoRing", Rows.laid_loop_example_g03005_impl_errNoRing)] w) : ∃ a0, ErrAt a0 w := by
  obtain ⟨a, s, hv, -, -, -⟩ := laid_sentinel (tp := 221) (te := 246) (ts := 9) hL errName errType Tryz.underlying73 errRow Tryz.underlying221 Tryz.underlying246 rfl rfl Tryz.underlying9 errCells strCells
  exact ⟨a, by have := World.var?_cell errName hv 0; simpa [ErrAt] using this⟩
theorem errVar_of {w : World} (hL : laidMet Tryz.prog [("loop.example/g03005/impl.errNoRing", Rows.laid_loop_example_g03005_impl_errNoRing)] w) : ∃ a0, w.var? Tryz.prog "loop.example/g03005/impl.errNoRing" = some #[.iface 221 (.pointer (some a0))] := by
  obtain ⟨a, s, hv, -, -, -⟩ := laid_sentinel (tp := 221) (te := 246) (ts := 9) hL errName errType Tryz.underlying73 errRow Tryz.underlying221 Tryz.underlying246 rfl rfl Tryz.underlying9 errCells strCells
  exact ⟨a, hv⟩
theorem errVars {H : Type} (enc : TypeId × Value → H) {W : World} {a0 : Addr} (h : W.var? Tryz.prog "loop.example/g03005/impl.errNoRing" = some #[.iface 221 (.pointer (some a0))]) (sp : Nat → Bool) :
    DataW.TrodVars enc Tryz.prog W sp ["loop.example/g03005/impl.errNoRing"] [tok enc (.iface 221 (.pointer (some a0)))] [.cell 0 0] :=
  vars_read1 enc errName errType Tryz.underlying73 h trivial sp
theorem errVar_below {W W' : World} {a0 : Addr} (h : W.var? Tryz.prog "loop.example/g03005/impl.errNoRing" = some #[.iface 221 (.pointer (some a0))]) (hb : Below W.heap.size W W') : W'.var? Tryz.prog "loop.example/g03005/impl.errNoRing" = some #[.iface 221 (.pointer (some a0))] :=
  var?_below hb errName (World.block_lt_of_cell? _ _ (World.var?_cell errName h 0)) h
end Go.Proofs.YtbnjaaegbmhopaaGreatDoor
end
section
namespace Go.Proofs.YtbnjaaegbmhopaaGreatDoor
open Go.ChangeShapes Go.WideShapes Go.ChangeAt Go.RowKit
set_option linter.unusedVariables false

theorem Vars.c52 {w0 w : World} {l : List (Array Value)} {cs cs' : Array Value} {v0 v1 v2 v3 v4 : Value} (h : Vars w0 w (cs :: cs' :: #[v0, v1, v2, v3, v4] :: l)) : w.cell? ⟨w0.heap.size + 1 + 1, 0, none⟩ = some v0 ∧ w.cell? ⟨w0.heap.size + 1 + 1, 1, none⟩ = some v1 ∧ w.cell? ⟨w0.heap.size + 1 + 1, 2, none⟩ = some v2 ∧ w.cell? ⟨w0.heap.size + 1 + 1, 3, none⟩ = some v3 ∧ w.cell? ⟨w0.heap.size + 1 + 1, 4, none⟩ = some v4 := h.c5 _ 2 rfl rfl
set_option maxRecDepth 100000 in
set_option maxHeartbeats 1000000 in
theorem toFeature_any (a k r : Int) (s : ByteArray) (A : Option Addr) (c : Nat) (ps : List (Int × Int)) (w : World) (hs : SeesE 2 encPoint w w.heap.size A ps) (hl : ps.length ≤ 1099511627776) :
    Calls Tryz.prog 27 #[FtV a k r s A ps.length c] w (GivesFt a k r s ps w) := by
  have HS := Lib.hid hs; clear hs
  have HV0 := Lib.hid (Vars.of3 w (FtC a k r s A ps.length c) (FtC 0 0 0 ⟨#[]⟩ none 0 0) (FtC a k r s none 0 0) 54 41 41)
  go_enter Tryz.func27, Tryz.ntmps27
  go_upto_region 6 with fail
  generalize hwz : (((w.alloc (.cells (FtC a k r s A ps.length c) 54)).alloc (.cells (FtC 0 0 0 ⟨#[]⟩ none 0 0) 41)).alloc (.cells (FtC a k r s none 0 0) 41)) = wz at HV0 ⊢
  clear hwz
  have hB0 : w.heap.size + 3 ≤ wz.heap.size := HV0.out.more3
  obtain ⟨k0, k1, k2, k3, k4⟩ := HV0.out.c50
  have HS1 := Lib.hid ((HS.out.below HV0.out.1).mono HV0.out.1.size)
  go_wp2_with fail
  refine (toPointS_any A c ps _ HS1.out hl).mono ?_
  rintro e w1 ⟨A1, c1, L, hL, rfl, ho, hb⟩
  have HL := hL
  have HO := Lib.hid ho
  have HV1 := Lib.hid (HV0.out.next hb)
  clear hL ho hb k0 k1 k2 k3 k4
  obtain ⟨j0, j1, j2, j3, j4⟩ := HV1.out.c51
  obtain ⟨q0, q1, q2, q3, q4⟩ := HV1.out.c52
  obtain ⟨f0, f1, f2, f3, f4⟩ := HV1.out.f51
  have f5 := HV1.out.frozen (w.heap.size + 1 + 1) 2 4 rfl rfl
  go_wp2
  refine bodyPost_ret (v := FtV a k r s A1 L.length c1) (by simp [results, Tryz.results27, go_sem, j0, j1, j2, j3, j4]) rfl ?_
  refine ⟨A1, L, c1, HL, rfl, ((((((HO.out.putO (by omega) _ _).putO (by omega) _ _).putO (by omega) _ _).putO (by omega) _ _).putO (by omega) _ _).putO (by omega) _ _).mono (by omega), ?_⟩
  exact (((((HV1.out.1.setCell (by simp; omega) _).setCell (by simp) _).setCell (by simp) _).setCell (by simp) _).setCell (by simp) _).setCell (by simp) _
set_option maxRecDepth 100000 in
set_option maxHeartbeats 1000000 in
theorem eqFeature_yes (a k r : Int) (s : ByteArray) (A A' : Option Addr) (c c' : Nat) (ps ps' : List (Int × Int)) (w : World) (hs : SeesE 2 encPoint w w.heap.size A ps) (hs' : SeesE 2 encPoint w w.heap.size A' ps') (he : ps = ps') (hl : ps.length ≤ 1099511627776) :
    Calls Tryz.prog 30 #[FtV a k r s A ps.length c, FtV a k r s A' ps'.length c'] w fun e w' => e = .returned (.bool true) ∧ Below w.heap.size w w' := by
  have HV := Lib.hid (Vars.of2 w (FtC a k r s A ps.length c) (FtC a k r s A' ps'.length c') 41 41)
  have HS := Lib.hid ((hs.below HV.out.1).mono HV.out.1.size)
  have HS' := Lib.hid ((hs'.below HV.out.1).mono HV.out.1.size)
  have HE := Lib.hid he
  clear hs hs' he
  go_enter Tryz.func30, Tryz.ntmps30
  go_wp2_with fail
  refine (eqPointS_yes A A' c c' ps ps' _ HS.out HS'.out HE.out hl).mono ?_
  rintro e w1 ⟨rfl, hb1⟩
  have HV1 := Lib.hid (HV.out.next hb1)
  clear hb1
  go_wp2
  go_ret
  exact ⟨rfl, HV1.out.1⟩
section
variable {w : World} {g B cc : Nat} {e : TypeId} {L : List FCel} {j : Nat} {v : Value} {l : List Feat}
/-- One feature's cells are written. -/
theorem rowF_set (h : RowE 5 encF w g e cc L) (hj : j < L.length) (a k r : Int) (s : ByteArray) (A : Option Addr) (n m : Nat) :
    RowE 5 encF (((((w.setCell ⟨g, j * 5, none⟩ (.int .i64 a)).setCell ⟨g, j * 5 + 1, none⟩ (.int .i64 k)).setCell ⟨g, j * 5 + 2, none⟩ (.int .i64 r)).setCell ⟨g, j * 5 + 3, none⟩ (.string s)).setCell ⟨g, j * 5 + 4, none⟩ (.slice A n m)) g e cc (L.set j (a, k, r, s, A, n, m)) := by
  obtain ⟨⟨y0, y1, y2, y3, y4, y5, y6⟩, hx⟩ : ∃ x, L[j]? = some x := ⟨_, List.getElem?_eq_getElem hj⟩
  have h1 := h.put elF (k := 0) (x' := (a, y1, y2, y3, y4, y5, y6)) (v := .int .i64 a) hx (by decide) rfl
  have h2 := h1.put elF (k := 1) (x' := (a, k, y2, y3, y4, y5, y6)) (v := .int .i64 k) (List.getElem?_set_self (by simpa using hj)) (by decide) rfl
  have h3 := h2.put elF (k := 2) (x' := (a, k, r, y3, y4, y5, y6)) (v := .int .i64 r) (List.getElem?_set_self (by simpa using hj)) (by decide) rfl
  have h4 := h3.put elF (k := 3) (x' := (a, k, r, s, y4, y5, y6)) (v := .string s) (List.getElem?_set_self (by simpa using hj)) (by decide) rfl
  have h5 := h4.put elF (k := 4) (x' := (a, k, r, s, A, n, m)) (v := .slice A n m) (List.getElem?_set_self (by simpa using hj)) (by decide) rfl
  simp only [List.set_set, Nat.add_zero] at h5
  exact h5
theorem rowF_cells (h : RowE 5 encF w g e cc L) {y : FCel} (hx : L[j]? = some y) : w.cell? ⟨g, j * 5, none⟩ = some (.int .i64 y.1) ∧ w.cell? ⟨g, j * 5 + 1, none⟩ = some (.int .i64 y.2.1) ∧ w.cell? ⟨g, j * 5 + 2, none⟩ = some (.int .i64 y.2.2.1) ∧ w.cell? ⟨g, j * 5 + 3, none⟩ = some (.string y.2.2.2.1) ∧ w.cell? ⟨g, j * 5 + 4, none⟩ = some (slF y) :=
  ⟨h.cell elF hx (k := 0) rfl, h.cell elF hx (k := 1) rfl, h.cell elF hx (k := 2) rfl, h.cell elF hx (k := 3) rfl, h.cell elF hx (k := 4) rfl⟩
theorem rowF_frz (h : RowE 5 encF w g e cc L) (j : Nat) : w.frozen? ⟨g, j * 5, none⟩ = false ∧ w.frozen? ⟨g, j * 5 + 1, none⟩ = false ∧ w.frozen? ⟨g, j * 5 + 2, none⟩ = false ∧ w.frozen? ⟨g, j * 5 + 3, none⟩ = false ∧ w.frozen? ⟨g, j * 5 + 4, none⟩ = false :=
  ⟨h.frozen _, h.frozen _, h.frozen _, h.frozen _, h.frozen _⟩
theorem OwnE.putN {α : Type} {n : Nat} {enc : α → List Value} {LL : List α} (h : OwnE n enc w B e v LL) {b : Nat} (hb : v.ownBlock ≠ some b) (i : Nat) (u : Value) : OwnE n enc (w.setCell ⟨b, i, none⟩ u) B e v LL := by
  refine ⟨h.1, ?_⟩
  rcases h.2 with hn | ⟨g, cap, cur, rfl, hB, hg, rest⟩
  · exact .inl hn
  · exact .inr ⟨g, cap, cur, rfl, hB, (Below.heap_setCell _ _ _ _ (by intro e; apply hb; simp [Value.ownBlock]; first | exact e | exact e.symm)).trans hg, rest⟩
theorem RowsF.putN (h : RowsF w B v L l) {b : Nat} (hv : v.ownBlock = some b) (i : Nat) (u : Value) : RowsF (w.setCell ⟨b, i, none⟩ u) B v L l :=
  ⟨h.1, h.2.1, fun j x f hx hf => by
    obtain ⟨h1, h2, h3⟩ := h.2.2 j x f hx hf
    exact ⟨h1, h2.putN (fun e => h3 b e hv) i u, h3⟩⟩
end
theorem take_setF {α : Type} (xs : List α) (j : Nat) (x : α) (h : j < xs.length) : (xs.set j x).take (j + 1) = xs.take j ++ [x] := by
  have e : (xs.set j x).take j = xs.take j := by
    apply List.ext_getElem?
    intro i
    rw [List.getElem?_take, List.getElem?_take]
    split
    · rw [List.getElem?_set_ne (by omega)]
    · rfl
  rw [List.take_add_one, List.getElem?_set_self h, e]
  rfl
set_option maxRecDepth 100000 in
set_option maxHeartbeats 1000000 in
theorem toFeatureS_any (A : Option Addr) (c : Nat) (l : List Feat) (w : World) (hs : SeesF w w.heap.size A l) (hl : l.length ≤ 1099511627776) (hp : FewP l) :
    Calls Tryz.prog 36 #[.slice A l.length c] w (GivesF l w) := by
  have HS := Lib.hid hs
  have HP := Lib.hid hp
  obtain ⟨n, hn⟩ : ∃ n, l.length = n := ⟨_, rfl⟩
  have HN := Lib.hid hn
  rw [hn] at hl ⊢
  clear hs hp hn
  obtain ⟨i, hi, hz, hi1, hi2⟩ := info_parts infoFeature
  have HI := Lib.hid (And.intro hi (And.intro hz (And.intro hi1 hi2)))
  clear hi hz hi1 hi2
  go_enter Tryz.func36, Tryz.ntmps36
  go_wp2_with (at_make; refine wpList_make_rowE w elF rfl _ _ _ rfl _ i _ (0, 0, 0, ⟨#[]⟩, none, 0, 0) 64 Tryz.underlying45 HI.out.1 HI.out.2.1 HI.out.2.2.1 HI.out.2.2.2 (by decide) rfl .i64 .i64 n rfl rfl hl ?_; intro w1 hrow hb1)
  have HR := Lib.hid hrow
  have HB := Lib.hid hb1
  clear hrow hb1 HI
  go_loopw [4] (fun iv wr => ∃ (j : Nat) (xs : List FCel), j ≤ n ∧ iv = .int .i64 j ∧ Hid (xs.length = n) ∧ Hid (RowE 5 encF wr w.heap.size 41 n xs) ∧ Hid (RowsF wr w.heap.size (.slice (some ⟨w.heap.size, 0, none⟩) n n) (xs.take j) (l.take j)) ∧ Hid (Below w.heap.size w wr)) (fun iv _ => n - (intOf iv).toNat)
  case atStart => exact ⟨0, _, Nat.zero_le _, rfl, Lib.hid (by simp), HR, Lib.hid ⟨rfl, fun i j x y b _ hx => by simp at hx, fun j x f hx => by simp at hx⟩, HB⟩
  case round =>
    obtain ⟨j, xs, hj, rfl, HX, HRr, HRs, HBr⟩ := hrel
    clear HR HB
    by_cases hlt : j < n
    · have hji : (j : Int) < (n : Int) := by omega
      obtain ⟨⟨a, k, r, s, ps⟩, hf⟩ : ∃ f, l[j]? = some f := ⟨_, List.getElem?_eq_getElem (by rw [HN.out]; exact hlt)⟩
      obtain ⟨b, off, A', c', rfl, hb, hss, -, q0, q1, q2, q3, q4⟩ := (HS.out.below HBr.out).at_ hf
      have HSS := Lib.hid (hss.mono HBr.out.size)
      have hpl : ps.length ≤ 1099511627776 := Nat.le_trans (HP.out j _ hf) (by decide)
      have HF := Lib.hid hf
      clear hf hss
      go_wp2_with fail
      refine (toFeature_any a k r s A' c' ps _ HSS.out hpl).mono ?_
      rintro e w2 ⟨A1, P, c1, hP, rfl, ho, hb2⟩
      obtain rfl : ps = P := hP.out.symm
      have HO := Lib.hid ho
      have hsz := HBr.out.size
      have HB2 := Lib.hid (HBr.out.trans (hb2.mono hsz))
      have HR2 := Lib.hid (HRr.out.below hb2 HRr.out.lt)
      have HRs2 := Lib.hid (HRs.out.belowAll hb2)
      have hge : wr.heap.size ≤ w2.heap.size := hb2.size
      have hglt : w.heap.size < wr.heap.size := HRr.out.lt
      clear hP ho hb2 q0 q1 q2 q3 q4
      obtain ⟨y, hy⟩ : ∃ y, xs[j]? = some y := ⟨_, List.getElem?_eq_getElem (by rw [HX.out]; exact hlt)⟩
      obtain ⟨k0, k1, k2, k3, k4⟩ := rowF_cells HR2.out hy
      obtain ⟨f0, f1, f2, f3, f4⟩ := rowF_frz HR2.out j
      clear hy
      have HRW : Hid (RowsF w2 w.heap.size (.slice (some ⟨w.heap.size, 0, none⟩) n n) ((xs.set j (a, k, r, s, A1, ps.length, c1)).take (j + 1)) (l.take (j + 1))) := Lib.hid (by
        rw [take_setF xs j _ (by rw [HX.out]; exact hlt), List.take_add_one, HF.out]
        refine HRs2.out.app (l2 := [(a, k, r, s, ps)]) (rows_one (C := wr.heap.size) (HO.out.mono hsz) (fun b hb => (HO.out.lt b hb).1) (fun g hg => ?_) ⟨rfl, rfl, rfl, rfl⟩) (rows_sep HRs.out (Nat.le_refl _) (fun q y b hy hb => ?_))
        · simp only [Value.ownBlock, Option.some.injEq] at hg
          omega
        · match q, hy with
          | 0, hy => simp at hy; subst hy; exact (HO.out.lt b hb).1)
      go_wp2
      go_roundw
      case rel => exact ⟨j + 1, xs.set j (a, k, r, s, A1, ps.length, c1), by omega, by go_num, Lib.hid (by rw [List.length_set]; exact HX.out), Lib.hid (rowF_set HR2.out (by rw [HX.out]; exact hlt) a k r s A1 ps.length c1), Lib.hid (((((HRW.out.putN rfl _ _).putN rfl _ _).putN rfl _ _).putN rfl _ _).putN rfl _ _), Lib.hid (((((HB2.out.setCell (Nat.le_refl _) _).setCell (Nat.le_refl _) _).setCell (Nat.le_refl _) _).setCell (Nat.le_refl _) _).setCell (Nat.le_refl _) _)⟩
      case measure => simp [intOf]; omega
    · obtain rfl : j = n := by omega
      have hji : ¬ (j : Int) < (j : Int) := by omega
      have HOwn : Hid (OwnF wr w.heap.size (.slice (some ⟨w.heap.size, 0, none⟩) j j) l) := Lib.hid (by
        refine ⟨xs, ?_, ?_⟩
        · have := HRr.out.own elF (Nat.le_refl _)
          rwa [HX.out] at this
        · have := HRs.out
          rwa [List.take_of_length_le (by rw [HX.out]; exact Nat.le_refl _), List.take_of_length_le (by rw [HN.out]; exact Nat.le_refl _)] at this)
      go_wp2
      go_ret
      exact ⟨some ⟨w.heap.size, 0, none⟩, l, j, Lib.hid rfl, by rw [HN.out]; rfl, by rw [HN.out]; exact HOwn.out, HBr.out⟩
end Go.Proofs.YtbnjaaegbmhopaaGreatDoor
end
