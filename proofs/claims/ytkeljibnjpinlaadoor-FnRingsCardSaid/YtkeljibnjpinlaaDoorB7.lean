/- Texts of this seat, one behind the other. -/
import Derived.Test.YtkeljibnjpinlaaDoorB6
import Derived.ChangeKeysEq
import Derived.Test.YtkeljibnjpinlaaDoorProg
import Derived.WalkKit
import Derived.Deep.RegionHeld3
/- Segments: how two segments meet, in package impl. -/
namespace Go.Proofs.YtkeljibnjpinlaaDoor
open Go.ChangeShapes Go.WideShapes Go.ChangeAt Go.RowKit
set_option linter.unusedVariables false

/-- Two pairs of marks are compared. -/
theorem eqMk (m n u v : Int) (w : World) : Sem.run Tryd.prog (Op.equalIn 10000 124 (Value.agg #[Value.int IntKind.i32 m, Value.int IntKind.i32 n]) (Value.agg #[Value.int IntKind.i32 u, Value.int IntKind.i32 v])) w = .ok (m == u && n == v) w := by
  have hc : Tryd.prog.cellsOf 21 = 1 := by kernel_rfl
  obtain ⟨i, hi⟩ : ∃ i, Tryd.prog.info? 21 = some i := Option.isSome_iff_exists.1 (by kernel_rfl)
  have p0 (x y : Int) : (part 21 #[Value.int IntKind.i32 x, Value.int IntKind.i32 y] (0 * 1)).run Tryd.prog w = .ok (.int .i32 x) w := by kernel_rfl
  have p1 (x y : Int) : (part 21 #[Value.int IntKind.i32 x, Value.int IntKind.i32 y] (1 * 1)).run Tryd.prog w = .ok (.int .i32 y) w := by kernel_rfl
  rw [run_equalIn_array w 9999 _ _ Tryd.underlying124 hi, hc, show List.range 2 = [0, 1] from rfl]
  simp only [Op.eqItems, Sem.run_bind, p0, Result.andThen_ok]
  rw [run_equalIn_int w 9998 _ _ _ _ _ Tryd.underlying21]
  cases h : (m == u)
  · simp
  · rw [Result.andThen_ok]
    simp [p1]
    rw [run_equalIn_int w 9998 _ _ _ _ _ Tryd.underlying21]
    cases h : (n == v) <;> simp
theorem eqMk_is (m n u v : Int) (k : Bool) (h : (m == u && n == v) = k) (w : World) : Sem.run Tryd.prog (Op.equalIn 10000 124 (Value.agg #[Value.int IntKind.i32 m, Value.int IntKind.i32 n]) (Value.agg #[Value.int IntKind.i32 u, Value.int IntKind.i32 v])) w = .ok k w := by
  subst h; exact eqMk m n u v w
theorem rune_zero {a b c d x y : Int} : runeV (sideV a b c d x y) = 48 ↔ sideV a b c d x y = 0 := by
  rcases sides3 a b c d x y with h | h | h <;> rw [h] <;> decide
/-- How two segments meet, by the marks of their ends. -/
theorem how_marks {a b c d p q r s m n u v : Int} (hs : isS a b c d = true) (ht : isS p q r s = true) (hx : ¬ Apart a b c d p q r s)
    (hm : runeV (sideV a b c d p q) = m) (hn : runeV (sideV a b c d r s) = n) (hu : runeV (sideV p q r s a b) = u) (hv : runeV (sideV p q r s c d) = v) :
    howV a b c d p q r s = if m = 48 ∧ n = 48 then (if Spot a b c d p q r s then 1 else 3) else markW m n u v := by
  unfold howV
  rw [if_pos ⟨hs, ht⟩, if_neg hx, ← hm, ← hn, ← hu, ← hv, markW_eq (sides3 _ _ _ _ _ _) (sides3 _ _ _ _ _ _) (sides3 _ _ _ _ _ _) (sides3 _ _ _ _ _ _)]
  simp only [rune_zero]
theorem oneLine_is (a b c d z : Int) (w : World) (h : (if a = c ∧ b = d then 1 else 3) = z) :
    Calls Tryd.prog 88 #[SegV a b c d] w fun e w' => e = .returned (.int .i64 z) ∧ Below w.heap.size w w' := by
  subst h; exact oneLine_any a b c d w
theorem markEnds_is (a b c d p q r s m n : Int) (w : World) (hm : runeV (sideV a b c d p q) = m) (hn : runeV (sideV a b c d r s) = n) :
    Calls Tryd.prog 87 #[SegV a b c d, SegV p q r s] w fun e w' => e = .returned (MkV m n) ∧ Below w.heap.size w w' := by
  subst hm hn; exact markEnds_any a b c d p q r s w
theorem howMeet_no (a b c d p q r s : Int) (w : World) (h : ¬ (isS a b c d = true ∧ isS p q r s = true)) :
    Calls Tryd.prog 79 #[SegV a b c d, SegV p q r s] w fun e w' => e = .returned (.int .i64 (howV a b c d p q r s)) ∧ Below w.heap.size w w' := by
  have HE := Lib.hid (how_no h)
  have HB := Lib.hid (Vars.of2 w (SegC a b c d) (SegC p q r s) 60 60)
  go_enter Tryd.func79, Tryd.ntmps79
  cases hs : isS a b c d
  · go_wp2_with fail
    refine (boxS_no a b c d _ hs).mono ?_
    rintro e w1 ⟨rfl, hb1⟩
    have HB1 := Lib.hid ((HB.out.next hb1).al (.cells NoC 94))
    clear hb1 HB
    obtain ⟨k0, k1, k2, k3, k4, k5, k6, k7⟩ := HB1.out.c44
    go_wp2_with fail
    cases ht : isS p q r s
    · refine (boxS_no p q r s _ ht).mono ?_
      rintro e w2 ⟨rfl, hb2⟩
      have HB2 := Lib.hid ((HB1.out.next hb2).al (.cells NoC 94))
      clear hb2
      go_wp2
      go_ret
      exact ⟨ret_int HE.out.symm, HB2.out.1⟩
    · refine (boxS_yes p q r s _ ht).mono ?_
      rintro e w2 ⟨rfl, hb2⟩
      have HB2 := Lib.hid ((HB1.out.next hb2).al (.cells (BoxedC p q r s) 94))
      clear hb2
      go_wp2
      go_ret
      exact ⟨ret_int HE.out.symm, HB2.out.1⟩
  · have ht : isS p q r s = false := by cases ht : isS p q r s with
      | false => rfl
      | true => exact absurd ⟨hs, ht⟩ h
    go_wp2_with fail
    refine (boxS_yes a b c d _ hs).mono ?_
    rintro e w1 ⟨rfl, hb1⟩
    have HB1 := Lib.hid ((HB.out.next hb1).al (.cells (BoxedC a b c d) 94))
    clear hb1 HB
    obtain ⟨k0, k1, k2, k3, k4, k5, k6, k7⟩ := HB1.out.c44
    go_wp2_with fail
    refine (boxS_no p q r s _ ht).mono ?_
    rintro e w2 ⟨rfl, hb2⟩
    have HB2 := Lib.hid ((HB1.out.next hb2).al (.cells NoC 94))
    clear hb2
    go_wp2
    go_ret
    exact ⟨ret_int HE.out.symm, HB2.out.1⟩
set_option maxHeartbeats 4000000 in
theorem howMeet_yes (a b c d p q r s : Int) (w : World) (hs : isS a b c d = true) (ht : isS p q r s = true) :
    Calls Tryd.prog 79 #[SegV a b c d, SegV p q r s] w fun e w' => e = .returned (.int .i64 (howV a b c d p q r s)) ∧ Below w.heap.size w w' := by
  have HB := Lib.hid (Vars.of2 w (SegC a b c d) (SegC p q r s) 60 60)
  go_enter Tryd.func79, Tryd.ntmps79
  go_wp2_with fail
  refine (boxS_yes a b c d _ hs).mono ?_
  rintro e w1 ⟨rfl, hb1⟩
  have HB1 := Lib.hid ((HB.out.next hb1).al (.cells (BoxedC a b c d) 94))
  have H51 := Lib.hid (Vars.of1 w1 (BoxedC a b c d) 94)
  clear hb1 HB
  obtain ⟨k0, k1, k2, k3, k4, k5, k6, k7⟩ := HB1.out.c44
  go_wp2_with fail
  refine (boxS_yes p q r s _ ht).mono ?_
  rintro e w2 ⟨rfl, hb2⟩
  have HB2 := Lib.hid ((HB1.out.next hb2).al (.cells (BoxedC p q r s) 94))
  have H52 := Lib.hid ((H51.out.next hb2).al (.cells (BoxedC p q r s) 94))
  have H72 := Lib.hid (Vars.of1 w2 (BoxedC p q r s) 94)
  clear hb2 HB1 H51 k0 k1 k2 k3 k4 k5 k6 k7
  obtain ⟨k0, k1, k2, k3, k4, k5, k6, k7⟩ := H52.out.c8 w1.heap.size 0 rfl rfl
  go_wp2_with fail
  by_cases hx : Apart a b c d p q r s
  · have HE := Lib.hid (how_apart hx)
    refine (shared_no _ _ _ _ _ _ _ _ _ hx).mono ?_
    rintro e w3 ⟨rfl, hb3⟩
    have HB3 := Lib.hid ((HB2.out.next hb3).al (.cells (SegC 0 0 0 0) 92))
    clear hb3
    go_wp2
    go_ret
    exact ⟨ret_int HE.out.symm, HB3.out.1⟩
  · refine (shared_yes _ _ _ _ _ _ _ _ _ hx).mono ?_
    rintro e w3 ⟨rfl, hb3⟩
    obtain ⟨lx, hlx⟩ : ∃ z, max (min a c) (min p r) = z := ⟨_, rfl⟩
    obtain ⟨ly, hly⟩ : ∃ z, max (min b d) (min q s) = z := ⟨_, rfl⟩
    obtain ⟨hx', hhx⟩ : ∃ z, min (max a c) (max p r) = z := ⟨_, rfl⟩
    obtain ⟨hy', hhy⟩ : ∃ z, min (max b d) (max q s) = z := ⟨_, rfl⟩
    have HSp : Hid (Spot a b c d p q r s ↔ lx = hx' ∧ ly = hy') := Lib.hid (by unfold Spot; rw [hlx, hly, hhx, hhy])
    rw [hlx, hly, hhx, hhy]
    clear hlx hly hhx hhy
    have HB3 := Lib.hid ((HB2.out.next hb3).al (.cells (SegC lx ly hx' hy') 92))
    have H53 := Lib.hid ((H52.out.next hb3).al (.cells (SegC lx ly hx' hy') 92))
    have H73 := Lib.hid ((H72.out.next hb3).al (.cells (SegC lx ly hx' hy') 92))
    have H93 := Lib.hid (Vars.of1 w3 (SegC lx ly hx' hy') 92)
    clear hb3 HB2 H52 H72 k0 k1 k2 k3 k4 k5 k6 k7
    obtain ⟨m, hm⟩ : ∃ m, runeV (sideV a b c d p q) = m := ⟨_, rfl⟩
    obtain ⟨n, hn⟩ : ∃ m, runeV (sideV a b c d r s) = m := ⟨_, rfl⟩
    obtain ⟨u, hu⟩ : ∃ m, runeV (sideV p q r s a b) = m := ⟨_, rfl⟩
    obtain ⟨v, hv⟩ : ∃ m, runeV (sideV p q r s c d) = m := ⟨_, rfl⟩
    have HE := Lib.hid (how_marks hs ht hx hm hn hu hv)
    have HM := Lib.hid hm
    have HN := Lib.hid hn
    have HU := Lib.hid hu
    have HV := Lib.hid hv
    clear hm hn hu hv hs ht hx
    obtain ⟨k0, k1, k2, k3, k4, k5, k6, k7⟩ := H53.out.c8 w1.heap.size 0 rfl rfl
    obtain ⟨j0, j1, j2, j3, j4, j5, j6, j7⟩ := H73.out.c8 w2.heap.size 0 rfl rfl
    go_wp2_with fail
    refine (markEnds_is a b c d p q r s m n _ HM.out HN.out).mono ?_
    rintro e w4 ⟨rfl, hb4⟩
    have HB4 := Lib.hid ((HB3.out.next hb4).al (.cells (MkC m n) 124))
    have H54 := Lib.hid ((H53.out.next hb4).al (.cells (MkC m n) 124))
    have H74 := Lib.hid ((H73.out.next hb4).al (.cells (MkC m n) 124))
    have H94 := Lib.hid ((H93.out.next hb4).al (.cells (MkC m n) 124))
    have HC4 := Lib.hid (Vars.of1 w4 (MkC m n) 124)
    clear hb4 HB3 H53 H73 H93 k0 k1 k2 k3 k4 k5 k6 k7 j0 j1 j2 j3 j4 j5 j6 j7
    by_cases hmn : m = 48 ∧ n = 48
    · obtain ⟨rfl, rfl⟩ := hmn
      have HF : Hid ((if lx = hx' ∧ ly = hy' then 1 else 3) = howV a b c d p q r s) := Lib.hid (by rw [HE.out.trans (if_pos ⟨rfl, rfl⟩)]; simp [HSp.out])
      clear HE
      have em := eqMk_is 48 48 48 48 true (by decide)
      obtain ⟨k0, k1, k2, k3⟩ := H94.out.c40
      go_wp2_with fail
      refine (oneLine_is _ _ _ _ _ _ HF.out).mono ?_
      rintro e w5 ⟨rfl, hb5⟩
      have HB5 := Lib.hid (HB4.out.next hb5)
      clear hb5
      go_wp2
      go_ret
      exact ⟨rfl, HB5.out.1⟩
    · have HF : Hid (howV a b c d p q r s = markW m n u v) := Lib.hid (by rw [HE.out, if_neg hmn])
      clear HE
      have em := eqMk_is m n 48 48 false (by simp; omega)
      have HB5 := Lib.hid HB4.out.drew
      obtain ⟨k0, k1, k2, k3, k4, k5, k6, k7⟩ := H54.out.drew.c8 w1.heap.size 0 rfl rfl
      obtain ⟨j0, j1, j2, j3, j4, j5, j6, j7⟩ := H74.out.drew.c8 w2.heap.size 0 rfl rfl
      obtain ⟨i0, i1⟩ := HC4.out.drew.c20
      go_upto_region 11 with fail
      clear k4 k5 k6 k7 j4 j5 j6 j7
      go_region_held3 (fun w' => w'.cell? ⟨w1.heap.size, 0, none⟩ = some (.int .i64 a) ∧ w'.cell? ⟨w1.heap.size, 1, none⟩ = some (.int .i64 b) ∧ w'.cell? ⟨w1.heap.size, 2, none⟩ = some (.int .i64 c) ∧ w'.cell? ⟨w1.heap.size, 3, none⟩ = some (.int .i64 d) ∧ w'.cell? ⟨w2.heap.size, 0, none⟩ = some (.int .i64 p) ∧ w'.cell? ⟨w2.heap.size, 1, none⟩ = some (.int .i64 q) ∧ w'.cell? ⟨w2.heap.size, 2, none⟩ = some (.int .i64 r) ∧ w'.cell? ⟨w2.heap.size, 3, none⟩ = some (.int .i64 s) ∧ w'.cell? ⟨w4.heap.size, 0, none⟩ = some (.int .i32 m) ∧ w'.cell? ⟨w4.heap.size, 1, none⟩ = some (.int .i32 n)) (first | with_reducible exact ⟨k0, k1, k2, k3, j0, j1, j2, j3, i0, i1⟩) (first
        | (go_at_call 87; refine (markEnds_is _ _ _ _ _ _ _ _ _ _ _ HU.out HV.out).mono ?_; rintro e w9 ⟨rfl, hb9⟩; have HB9 := Lib.hid (HB5.out.next hb9); have H59 := Lib.hid (H54.out.drew.next hb9); have H79 := Lib.hid (H74.out.drew.next hb9); have HC9 := Lib.hid (HC4.out.drew.next hb9); obtain ⟨k0, k1, k2, k3, k4, k5, k6, k7⟩ := H59.out.c8 w1.heap.size 0 rfl rfl; obtain ⟨j0, j1, j2, j3, j4, j5, j6, j7⟩ := H79.out.c8 w2.heap.size 0 rfl rfl; obtain ⟨i0, i1⟩ := HC9.out.c20)
        | (go_at_call 89; refine (byMarks_any _ _ _ _ _).mono ?_; rintro e w8 ⟨rfl, hb8⟩; have HB8 := Lib.hid (HB9.out.next hb8); obtain ⟨k0, k1, k2, k3, k4, k5, k6, k7⟩ := (H59.out.next hb8).c8 w1.heap.size 0 rfl rfl; obtain ⟨j0, j1, j2, j3, j4, j5, j6, j7⟩ := (H79.out.next hb8).c8 w2.heap.size 0 rfl rfl; obtain ⟨i0, i1⟩ := (HC9.out.next hb8).c20) | fail)
      all_goals
        go_wp2
        go_ret
        exact ⟨ret_int HF.out.symm, HB8.out.1⟩
theorem howMeet_any (a b c d p q r s : Int) (w : World) :
    Calls Tryd.prog 79 #[SegV a b c d, SegV p q r s] w fun e w' => e = .returned (.int .i64 (howV a b c d p q r s)) ∧ Below w.heap.size w w' := by
  by_cases h : isS a b c d = true ∧ isS p q r s = true
  · exact howMeet_yes a b c d p q r s w h.1 h.2
  · exact howMeet_no a b c d p q r s w h
end Go.Proofs.YtkeljibnjpinlaaDoor

/- Segments: IsSegment and IsOn of the model. -/
namespace Go.Proofs.YtkeljibnjpinlaaDoor
open Go.ChangeShapes Go.WideShapes Go.ChangeAt Go.RowKit
set_option linter.unusedVariables false

theorem isS_no1 {a b c d : Int} (h : isP a b = false) : isS a b c d = false := by simp [isS, isP2, h]
theorem isS_no2 {a b c d : Int} (h : isP c d = false) : isS a b c d = false := by simp [isS, isP2, h]
theorem isS_yes {a b c d : Int} (h : isP a b = true) (h' : isP c d = true) : isS a b c d = !decide (a = c ∧ b = d) := by simp [isS, isP2, h, h']
theorem sIsSegment_any (a b c d : Int) (w : World) :
    Calls Tryd.prog 46 #[SegV a b c d] w fun e w' => e = .returned (.bool (isS a b c d)) ∧ Below w.heap.size w w' := by
  have HB := Lib.hid (Vars.of1 w (SegC a b c d) 60)
  go_enter Tryd.func46, Tryd.ntmps46
  go_wp2_with fail
  cases h1 : isP a b
  · have HE := Lib.hid (isS_no1 (c := c) (d := d) h1)
    refine (sIsPoint_is a b _ _ h1).mono ?_
    rintro e w1 ⟨rfl, hb1⟩
    have HB1 := Lib.hid (HB.out.next hb1)
    clear hb1
    go_wp2
    go_ret
    exact ⟨ret_eq HE.out.symm, HB1.out.1⟩
  · refine (sIsPoint_is a b _ _ h1).mono ?_
    rintro e w1 ⟨rfl, hb1⟩
    have HB1 := Lib.hid (HB.out.next hb1)
    clear hb1 HB
    obtain ⟨k0, k1, k2, k3⟩ := HB1.out.c40
    go_wp2_with fail
    cases h2 : isP c d
    · have HE := Lib.hid (isS_no2 (a := a) (b := b) h2)
      refine (sIsPoint_is c d _ _ h2).mono ?_
      rintro e w2 ⟨rfl, hb2⟩
      have HB2 := Lib.hid (HB1.out.next hb2)
      clear hb2
      go_wp2
      go_ret
      exact ⟨ret_eq HE.out.symm, HB2.out.1⟩
    · have HE := Lib.hid (isS_yes h1 h2)
      refine (sIsPoint_is c d _ _ h2).mono ?_
      rintro e w2 ⟨rfl, hb2⟩
      have HB2 := Lib.hid (HB1.out.next hb2)
      clear hb2 HB1 k0 k1 k2 k3 h1 h2
      obtain ⟨k0, k1, k2, k3⟩ := HB2.out.c40
      by_cases hac : a = c
      · by_cases hbd : b = d
        · have HF : Hid (isS a b c d = false) := Lib.hid (by rw [HE.out]; simp [hac, hbd])
          clear HE
          subst hac hbd
          go_wp2
          go_ret
          exact ⟨ret_eq HF.out.symm, HB2.out.1⟩
        · have HF : Hid (isS a b c d = true) := Lib.hid (by rw [HE.out]; simp [hbd])
          clear HE
          subst hac
          go_wp2
          go_ret
          exact ⟨ret_eq HF.out.symm, HB2.out.1⟩
      · have HF : Hid (isS a b c d = true) := Lib.hid (by rw [HE.out]; simp [hac])
        clear HE
        go_wp2
        go_ret
        exact ⟨ret_eq HF.out.symm, HB2.out.1⟩
theorem sIsSegment_is (a b c d : Int) (k : Bool) (w : World) (h : isS a b c d = k) :
    Calls Tryd.prog 46 #[SegV a b c d] w fun e w' => e = .returned (.bool k) ∧ Below w.heap.size w w' := by
  subst h; exact sIsSegment_any a b c d w
theorem onV_p {a b c d x y : Int} (h : isP x y = false) : onV a b c d x y = false := by
  unfold onV
  cases hs : isS a b c d
  · rfl
  · rw [Bool.true_and]
    refine decide_eq_false fun ho => ?_
    obtain ⟨h0, h1, h2, h3⟩ := on_bd hs ho
    rw [isP_of h0 h1 h2 h3] at h; cases h
theorem on_z {a b c d x y z : Int} (hz : (c - a) * (y - b) - (d - b) * (x - a) = z) (h : z ≠ 0) : onV a b c d x y = false := by
  unfold onV
  rw [decide_eq_false (fun ho : On a b c d x y => h (by rw [← hz]; exact ho.2.2.2.2)), Bool.and_false]
theorem on_xn {a b c d x y : Int} (h : inB x (extV false a c) (extV true a c) = false) : onV a b c d x y = false := by
  unfold onV
  rw [decide_eq_false (fun ho : On a b c d x y => by rw [ext_min, ext_max, inB_yes ho.1 ho.2.1] at h; cases h), Bool.and_false]
theorem on_yn {a b c d x y : Int} (h : inB y (extV false b d) (extV true b d) = false) : onV a b c d x y = false := by
  unfold onV
  rw [decide_eq_false (fun ho : On a b c d x y => by rw [ext_min, ext_max, inB_yes ho.2.2.1 ho.2.2.2.1] at h; cases h), Bool.and_false]
theorem on_all {a b c d x y : Int} (hs : isS a b c d = true) (hz : (c - a) * (y - b) - (d - b) * (x - a) = 0) (h : inB x (extV false a c) (extV true a c) = true) (h' : inB y (extV false b d) (extV true b d) = true) : onV a b c d x y = true := by
  rw [ext_min, ext_max] at h h'
  obtain ⟨x0, x1⟩ := inB_bd h
  obtain ⟨y0, y1⟩ := inB_bd h'
  exact onV_iff.2 ⟨hs, x0, x1, y0, y1, hz⟩
end Go.Proofs.YtkeljibnjpinlaaDoor

/- A region that draws its order, one operation after another: those whose guard says no are passed over too. -/
namespace Go.Proofs.YtkeljibnjpinlaaDoor
set_option linter.unusedVariables false
section
variable {P : Program} {ops : Array Oper} {Q : Exit → Act → World → Prop} {S : World → Prop} {oi : Oper} {rest : List Oper} {fuel : Nat} {listed : Array Bool} {a : Act} {w : World} {v : Value}
theorem op_at {i : Nat} (h : ops.toList.drop i = oi :: rest) : ops[i]? = some oi := by
  have h0 : (ops.toList.drop i)[0]? = some oi := by rw [h]; rfl
  rw [List.getElem?_drop] at h0
  simpa using h0
/-- An operation that reads: it is taken first. -/
theorem take_on (i : Nat) (hi : ops.toList.drop i = oi :: rest) (hs : Region.noSelect ops = true) (hf : Region.free .any ops listed i = true) (hr : (Region.ready .any ops listed).contains i = true)
    (hQ : ∀ c a w, Q (.panic c) (a.put oi.dst v) w → Q (.panic c) a w) (hw : Region.wanted oi (yielded ops a.tmps) = true) (hy : ∀ w, S w → (execOp a.eval oi).run P w = .ok (.value v) w) (hS : S w)
    (h : wpAnyH P .any ops Q S fuel (listed.setIfInBounds i true) (a.put oi.dst v) w) : wpAnyH P .any ops Q S (fuel + 1) listed a w :=
  wpAnyH_take (op_at hi) hs hf hr hQ (.inl ⟨hw, hy⟩) hS h
/-- An operation whose guard says no: it is passed over. -/
theorem take_off (i : Nat) (hi : ops.toList.drop i = oi :: rest) (hs : Region.noSelect ops = true) (hf : Region.free .any ops listed i = true) (hr : (Region.ready .any ops listed).contains i = true)
    (hQ : ∀ c a w, Q (.panic c) (a.put oi.dst undef) w → Q (.panic c) a w) (hw : Region.wanted oi (yielded ops a.tmps) = false) (hS : S w)
    (h : wpAnyH P .any ops Q S fuel (listed.setIfInBounds i true) (a.put oi.dst undef) w) : wpAnyH P .any ops Q S (fuel + 1) listed a w :=
  wpAnyH_take (op_at hi) hs hf hr hQ (.inr ⟨hw, rfl⟩) hS h
theorem with_ns (hs : Region.noSelect ops = true) (h : Region.noSelect ops = true → wpAnyH P .any ops Q S fuel listed a w) : wpAnyH P .any ops Q S fuel listed a w := h hs
/-- What has come up, written out. -/
theorem relist {l l' : Array Bool} (e : l = l') (h : wpAnyH P .any ops Q S fuel l' a w) : wpAnyH P .any ops Q S fuel l a w := e ▸ h
/-- The only operation that may come up: a call. -/
theorem take_call (i : Nat) (hi : ops.toList.drop i = oi :: rest) (hr : Region.ready .any ops listed = [i])
    (h : ∀ K' : Act → World → Prop, Shut (∀ a w, S w → (S w → wpAnyH P .any ops Q S fuel (listed.setIfInBounds i true) a w) → K' a w) → if Region.wanted oi (yielded ops a.tmps) = true then Oper.wp P oi a w K' Q else K' (a.put oi.dst undef) w) :
    wpAnyH P .any ops Q S (fuel + 1) listed a w :=
  wpAnyH_ready hr (by simp) (AllReadyH.cons (op_at hi) h AllReadyH.nil)
end
end Go.Proofs.YtkeljibnjpinlaaDoor

/- A region that draws its order, by tables: what each operation waits for, what it writes, and at what it looks, as bits of numbers, so that each step's tests are cheap for the kernel. -/
namespace Go.Proofs.YtkeljibnjpinlaaDoor
set_option linter.unusedVariables false
/-- Which operations have come up: the bits of m. -/
def maskArr (n m : Nat) : Array Bool := ((List.range n).map fun j => m.testBit j).toArray
theorem maskArr_get (n m j : Nat) (d : Bool) : (maskArr n m).getD j d = if j < n then m.testBit j else d := by
  unfold maskArr
  by_cases h : j < n
  · simp [Array.getD, h]
  · simp [Array.getD, h]
theorem maskArr_set {n m i : Nat} (h : i < n) : (maskArr n m).setIfInBounds i true = maskArr n (m ||| 2 ^ i) := by
  unfold maskArr
  apply Array.ext
  · simp
  · intro k h1 h2
    simp at h1 h2
    by_cases e : i = k
    · subst e
      simp [Nat.testBit_or, Nat.testBit_two_pow]
    · rw [Array.getElem_setIfInBounds_ne (by simpa using h1) e]
      simp [Nat.testBit_or, Nat.testBit_two_pow, e]
theorem maskArr_zero (n : Nat) : Array.replicate n false = maskArr n 0 := by
  unfold maskArr
  apply Array.ext
  · simp
  · intro k h1 h2; simp
def depM : List Edge → Nat
  | [] => 0
  | e :: r => if Region.binds .any e then 2 ^ e.on ||| depM r else depM r
theorem depM_bit (l : List Edge) (k : Nat) : (depM l).testBit k = l.any fun e => Region.binds .any e && e.on == k := by
  induction l with
  | nil => simp [depM]
  | cons e r ih =>
    unfold depM
    cases h : Region.binds .any e
    · simp [h, ih]
    · have hd : decide (e.on = k) = (e.on == k) := by by_cases hk : e.on = k <;> simp [hk]
      simp [h, ih, Nat.testBit_or, Nat.testBit_two_pow, hd]
def looksM : List Nat → Nat
  | [] => 0
  | d :: r => 2 ^ d ||| looksM r
theorem looksM_bit (l : List Nat) (k : Nat) : (looksM l).testBit k = l.contains k := by
  induction l with
  | nil => simp [looksM]
  | cons d r ih =>
    have hd : decide (d = k) = (k == d) := by by_cases hk : d = k <;> simp [hk]; exact fun e => hk e.symm
    simp only [looksM, Nat.testBit_or, Nat.testBit_two_pow, ih, List.contains_cons, hd]
def dstN (o : Oper) : Nat := match o.dst with | some d => d + 1 | none => 0
def tab (ops : Array Oper) : List (Nat × Nat × Nat) := ops.toList.map fun o => (depM o.after.toList, dstN o, looksM (o.looksAt ops))
def apartT (di li dj lj : Nat) : Bool := (di == 0 || (!lj.testBit (di - 1) && dj != di)) && (dj == 0 || !li.testBit (dj - 1))
theorem apartT_ok {ops : Array Oper} {x y : Oper} (h : apartT (dstN x) (looksM (x.looksAt ops)) (dstN y) (looksM (y.looksAt ops)) = true) : x.apart ops y = true := by
  unfold apartT dstN at h
  unfold Oper.apart
  rw [looksM_bit, looksM_bit] at h
  cases hx : x.dst <;> cases hy : y.dst <;> simp [hx, hy] at h ⊢ <;> first | exact h | (refine ⟨⟨h.1.1, fun e => h.1.2 e⟩, h.2⟩)
def freeGo (m i di li : Nat) : List (Nat × Nat × Nat) → Nat → Bool
  | [], _ => true
  | (dep, dj, lj) :: r, j => (j == i || m.testBit j || dep.testBit i || apartT di li dj lj) && freeGo m i di li r (j + 1)
theorem freeGo_ok {m i di li : Nat} {l : List (Nat × Nat × Nat)} {j : Nat} (h : freeGo m i di li l j = true) {k dep dj lj : Nat} (hk : l[k]? = some (dep, dj, lj)) :
    (j + k == i || m.testBit (j + k) || dep.testBit i || apartT di li dj lj) = true := by
  induction l generalizing j k with
  | nil => simp at hk
  | cons e r ih =>
    obtain ⟨dep', dj', lj'⟩ := e
    unfold freeGo at h
    rw [Bool.and_eq_true] at h
    cases k with
    | zero =>
      simp only [List.getElem?_cons_zero, Option.some.injEq, Prod.mk.injEq] at hk
      obtain ⟨rfl, rfl, rfl⟩ := hk
      simpa using h.1
    | succ k =>
      have := ih h.2 (k := k) (by simpa using hk)
      rwa [Nat.add_assoc, Nat.add_comm 1 k] at this
def freeT (T : List (Nat × Nat × Nat)) (m i : Nat) : Bool :=
  match T[i]? with
  | none => false
  | some (_, di, li) => freeGo m i di li T 0
theorem tab_get {ops : Array Oper} {j : Nat} {o : Oper} (h : ops[j]? = some o) : (tab ops)[j]? = some (depM o.after.toList, dstN o, looksM (o.looksAt ops)) := by
  unfold tab
  rw [List.getElem?_map, Array.getElem?_toList, h]; rfl
theorem freeT_ok {ops : Array Oper} {T : List (Nat × Nat × Nat)} (hT : tab ops = T) {n m i : Nat} (hn : ops.size = n) (h : freeT T m i = true) : Region.free .any ops (maskArr n m) i = true := by
  subst hT
  unfold freeT at h
  unfold Region.free
  cases hi : ops[i]? with
  | none =>
    have h0 : (tab ops)[i]? = none := by
      unfold tab; rw [List.getElem?_map, Array.getElem?_toList, hi]; rfl
    rw [h0] at h; cases h
  | some oi =>
    rw [tab_get hi] at h
    simp only [List.all_eq_true, List.mem_range]
    intro j hj
    obtain ⟨oj, hoj⟩ : ∃ oj, ops[j]? = some oj := ⟨_, Array.getElem?_eq_getElem hj⟩
    have hc := freeGo_ok h (tab_get hoj)
    rw [Nat.zero_add, depM_bit] at hc
    rw [maskArr_get, if_pos (by omega), hoj]
    simp only [Bool.or_eq_true] at hc ⊢
    rcases hc with ((hc | hc) | hc) | hc
    · exact .inl (.inl hc)
    · exact .inl (.inr hc)
    · exact .inr (.inl (by rw [← Array.any_toList]; exact hc))
    · exact .inr (.inr (apartT_ok hc))
def readyT (T : List (Nat × Nat × Nat)) (n m i : Nat) : Bool :=
  match T[i]? with
  | none => false
  | some (dep, _, _) => !m.testBit i && dep &&& m == dep && Nat.blt m (2 ^ n)
theorem bit_lt {m n k : Nat} (h : m < 2 ^ n) (hk : m.testBit k = true) : k < n := by
  apply Classical.byContradiction
  intro hn
  have := Nat.testBit_lt_two_pow (x := m) (i := k) (Nat.lt_of_lt_of_le h (Nat.pow_le_pow_right (by decide) (by omega)))
  rw [this] at hk; cases hk
theorem and_bit {d m : Nat} (h : d &&& m = d) {k : Nat} (hk : d.testBit k = true) : m.testBit k = true := by
  rw [← h, Nat.testBit_and, Bool.and_eq_true] at hk; exact hk.2
theorem ready_iff {ops : Array Oper} {n m : Nat} (hn : ops.size = n) (hm : m < 2 ^ n) {i : Nat} {o : Oper} (hi : ops[i]? = some o) :
    (!(maskArr n m).getD i true && ((ops[i]?).map (·.after.all fun e => !Region.binds .any e || (maskArr n m).getD e.on false)).getD false) = (!m.testBit i && (depM o.after.toList &&& m == depM o.after.toList)) := by
  have hin : i < n := by have := (Array.getElem?_eq_some_iff.1 hi).1; omega
  rw [maskArr_get, if_pos hin, hi]
  congr 1
  simp only [Option.map_some, Option.getD_some]
  rw [Bool.eq_iff_iff, Array.all_eq_true_iff_forall_mem, beq_iff_eq]
  constructor
  · intro h
    apply Nat.eq_of_testBit_eq
    intro k
    rw [Nat.testBit_and]
    cases hd : (depM o.after.toList).testBit k
    · rfl
    · rw [depM_bit, List.any_eq_true] at hd
      obtain ⟨e, he, hb⟩ := hd
      simp only [Bool.and_eq_true, beq_iff_eq] at hb
      obtain ⟨hb, rfl⟩ := hb
      have := h e (by simpa using he)
      rw [hb, maskArr_get] at this
      by_cases hlt : e.on < n
      · rw [if_pos hlt] at this; simpa using this
      · rw [if_neg hlt] at this; simp at this
  · intro h e he
    cases hb : Region.binds .any e
    · rfl
    · have hbit : (depM o.after.toList).testBit e.on = true := by
        rw [depM_bit, List.any_eq_true]
        exact ⟨e, by simpa using he, by simp [hb]⟩
      have hmb := and_bit h hbit
      rw [maskArr_get, if_pos (bit_lt hm hmb)]
      simp [hmb]
theorem readyT_ok {ops : Array Oper} {T : List (Nat × Nat × Nat)} (hT : tab ops = T) {n m i : Nat} (hn : ops.size = n) (h : readyT T n m i = true) : (Region.ready .any ops (maskArr n m)).contains i = true := by
  subst hT
  unfold readyT at h
  cases hi : ops[i]? with
  | none =>
    have h0 : (tab ops)[i]? = none := by
      unfold tab; rw [List.getElem?_map, Array.getElem?_toList, hi]; rfl
    rw [h0] at h; cases h
  | some oi =>
    rw [tab_get hi] at h
    simp only [Bool.and_eq_true] at h
    have hlt : m < 2 ^ n := by simpa [Nat.blt_eq] using h.2
    have hin := (Array.getElem?_eq_some_iff.1 hi).1
    rw [List.contains_iff_mem]
    unfold Region.ready
    rw [List.mem_filter]
    exact ⟨List.mem_range.2 hin, by rw [ready_iff hn hlt hi, Bool.and_eq_true]; exact h.1⟩
def onlyGo (m i : Nat) : List (Nat × Nat × Nat) → Nat → Bool
  | [], _ => true
  | (dep, _, _) :: r, j => (j == i || m.testBit j || dep &&& m != dep) && onlyGo m i r (j + 1)
theorem onlyGo_ok {m i : Nat} {l : List (Nat × Nat × Nat)} {j : Nat} (h : onlyGo m i l j = true) {k dep dj lj : Nat} (hk : l[k]? = some (dep, dj, lj)) :
    (j + k == i || m.testBit (j + k) || dep &&& m != dep) = true := by
  induction l generalizing j k with
  | nil => simp at hk
  | cons e r ih =>
    obtain ⟨dep', dj', lj'⟩ := e
    unfold onlyGo at h
    rw [Bool.and_eq_true] at h
    cases k with
    | zero =>
      simp only [List.getElem?_cons_zero, Option.some.injEq, Prod.mk.injEq] at hk
      obtain ⟨rfl, rfl, rfl⟩ := hk
      simpa using h.1
    | succ k =>
      have := ih h.2 (k := k) (by simpa using hk)
      rwa [Nat.add_assoc, Nat.add_comm 1 k] at this
theorem filter_one (n i : Nat) (h : i < n) : (List.range n).filter (fun k => k == i) = [i] := by
  induction n with
  | zero => omega
  | succ n ih =>
    rw [List.range_succ, List.filter_append]
    by_cases e : i = n
    · subst e
      have h0 : (List.range i).filter (fun k => k == i) = [] := by
        rw [List.filter_eq_nil_iff]
        intro k hk
        have := List.mem_range.1 hk
        simp; omega
      rw [h0]; simp
    · rw [ih (by omega)]
      have : (n == i) = false := by simp; omega
      simp [List.filter, this]
theorem onlyT_ok {ops : Array Oper} {T : List (Nat × Nat × Nat)} (hT : tab ops = T) {n m i : Nat} (hn : ops.size = n) (h : readyT T n m i = true) (ho : onlyGo m i T 0 = true) : Region.ready .any ops (maskArr n m) = [i] := by
  have hc := readyT_ok hT hn h
  subst hT
  rw [List.contains_iff_mem] at hc
  unfold Region.ready at hc ⊢
  rw [List.mem_filter] at hc
  have hin := List.mem_range.1 hc.1
  have hlt : m < 2 ^ n := by
    unfold readyT at h
    split at h
    · cases h
    · simp only [Bool.and_eq_true] at h; simpa [Nat.blt_eq] using h.2
  rw [← filter_one ops.size i hin]
  apply List.filter_congr
  intro k hk
  have hkn := List.mem_range.1 hk
  obtain ⟨ok, hok⟩ : ∃ ok, ops[k]? = some ok := ⟨_, Array.getElem?_eq_getElem hkn⟩
  have hg := onlyGo_ok ho (tab_get hok)
  rw [Nat.zero_add] at hg
  by_cases e : k = i
  · subst e
    rw [hc.2]; simp
  · have hf : (k == i) = false := by simpa using e
    rw [hf] at hg ⊢
    rw [ready_iff hn hlt hok]
    simp only [Bool.false_or, Bool.or_eq_true] at hg
    rcases hg with hg | hg
    · rw [hg]; rfl
    · have : (depM ok.after.toList &&& m == depM ok.after.toList) = false := by simpa [bne] using hg
      rw [this, Bool.and_false]
section
variable {P : Program} {ops : Array Oper} {Q : Exit → Act → World → Prop} {S : World → Prop} {oi : Oper} {rest : List Oper} {fuel : Nat} {a : Act} {w : World} {v : Value} {T : List (Nat × Nat × Nat)} {n m : Nat}
/-- What is known of a region, once. -/
def Tabs (ops : Array Oper) (T : List (Nat × Nat × Nat)) (n : Nat) : Prop := tab ops = T ∧ ops.size = n ∧ Region.noSelect ops = true
theorem with_tabs (ht : Tabs ops T n) (h : Tabs ops T n → wpAnyH P .any ops Q S fuel (maskArr n 0) a w) : wpAnyH P .any ops Q S fuel (Array.replicate ops.size false) a w := by
  rw [maskArr_zero, ht.2.1]; exact h ht
theorem size_lt (ht : Tabs ops T n) {i : Nat} (hi : ops.toList.drop i = oi :: rest) : i < n := by
  have := (Array.getElem?_eq_some_iff.1 (op_at hi)).1
  rw [ht.2.1] at this; exact this
theorem tab_on (i m' : Nat) (ht : Tabs ops T n) (hi : ops.toList.drop i = oi :: rest) (hf : freeT T m i = true) (hr : readyT T n m i = true) (hm : m ||| 2 ^ i = m')
    (hQ : ∀ c a w, Q (.panic c) (a.put oi.dst v) w → Q (.panic c) a w) (hw : Region.wanted oi (yielded ops a.tmps) = true) (hy : ∀ w, S w → (execOp a.eval oi).run P w = .ok (.value v) w) (hS : S w)
    (h : wpAnyH P .any ops Q S fuel (maskArr n m') (a.put oi.dst v) w) : wpAnyH P .any ops Q S (fuel + 1) (maskArr n m) a w :=
  take_on i hi ht.2.2 (freeT_ok ht.1 ht.2.1 hf) (readyT_ok ht.1 ht.2.1 hr) hQ hw hy hS (by rw [maskArr_set (size_lt ht hi), hm]; exact h)
theorem tab_off (i m' : Nat) (ht : Tabs ops T n) (hi : ops.toList.drop i = oi :: rest) (hf : freeT T m i = true) (hr : readyT T n m i = true) (hm : m ||| 2 ^ i = m')
    (hQ : ∀ c a w, Q (.panic c) (a.put oi.dst undef) w → Q (.panic c) a w) (hw : Region.wanted oi (yielded ops a.tmps) = false) (hS : S w)
    (h : wpAnyH P .any ops Q S fuel (maskArr n m') (a.put oi.dst undef) w) : wpAnyH P .any ops Q S (fuel + 1) (maskArr n m) a w :=
  take_off i hi ht.2.2 (freeT_ok ht.1 ht.2.1 hf) (readyT_ok ht.1 ht.2.1 hr) hQ hw hS (by rw [maskArr_set (size_lt ht hi), hm]; exact h)
theorem tab_call (i m' : Nat) (ht : Tabs ops T n) (hi : ops.toList.drop i = oi :: rest) (hr : readyT T n m i = true) (ho : onlyGo m i T 0 = true) (hm : m ||| 2 ^ i = m')
    (h : ∀ K' : Act → World → Prop, Shut (∀ a w, S w → (S w → wpAnyH P .any ops Q S fuel (maskArr n m') a w) → K' a w) → if Region.wanted oi (yielded ops a.tmps) = true then Oper.wp P oi a w K' Q else K' (a.put oi.dst undef) w) :
    wpAnyH P .any ops Q S (fuel + 1) (maskArr n m) a w :=
  take_call i hi (onlyT_ok ht.1 ht.2.1 hr ho) (by rw [maskArr_set (size_lt ht hi), hm]; exact h)
/-! One way through a region: its schedule is checked once. -/
/-- (i, true): operation i only reads, and is taken as soon as it may come up; (i, false): it is the only one that may. -/
def schedOk (T : List (Nat × Nat × Nat)) (n : Nat) : Nat → List (Nat × Bool) → Bool
  | m, [] => m == 2 ^ n - 1
  | m, (i, e) :: r => readyT T n m i && ((e && freeT T m i) || (!e && onlyGo m i T 0)) && schedOk T n (m ||| 2 ^ i) r
theorem ready_none {m : Nat} (ht : ops.size = n) (h : (m == 2 ^ n - 1) = true) : Region.ready .any ops (maskArr n m) = [] := by
  rw [beq_iff_eq] at h
  subst h
  unfold Region.ready
  rw [List.filter_eq_nil_iff]
  intro i hi
  have := List.mem_range.1 hi
  rw [maskArr_get, if_pos (by omega), Nat.testBit_two_pow_sub_one]
  simp; omega
/-- What stands in a type, simp leaves alone. -/
def Tag (ops : Array Oper) (Q : Exit → Act → World → Prop) (S : World → Prop) (T : List (Nat × Nat × Nat)) (n : Nat) : Type := Unit
def Lin (P : Program) {ops : Array Oper} {Q : Exit → Act → World → Prop} {S : World → Prop} {T : List (Nat × Nat × Nat)} {n : Nat} (tag : Tag ops Q S T n) (m : Nat) (sched : List (Nat × Bool)) (fuel : Nat) (a : Act) (w : World) : Prop :=
  Tabs ops T n → schedOk T n m sched = true → wpAnyH P .any ops Q S fuel (maskArr n m) a w
theorem to_lin (sched : List (Nat × Bool)) (ht : Tabs ops T n) (hs : schedOk T n 0 sched = true) (h : ∀ tag : Tag ops Q S T n, Lin P tag 0 sched fuel a w) : wpAnyH P .any ops Q S fuel (Array.replicate ops.size false) a w := by
  rw [maskArr_zero, ht.2.1]; exact h () ht hs
variable {tag : Tag ops Q S T n} {i : Nat} {r : List (Nat × Bool)}
theorem lin_on (hi : ops.toList.drop i = oi :: rest) (hQ : ∀ c a w, Q (.panic c) (a.put oi.dst v) w → Q (.panic c) a w) (hw : Region.wanted oi (yielded ops a.tmps) = true) (hy : ∀ w, S w → (execOp a.eval oi).run P w = .ok (.value v) w) (hS : S w)
    (h : Lin P tag (m ||| 2 ^ i) r fuel (a.put oi.dst v) w) : Lin P tag m ((i, true) :: r) (fuel + 1) a w := fun ht hs => by
  simp only [schedOk, Bool.true_and, Bool.not_true, Bool.false_and, Bool.or_false, Bool.and_eq_true] at hs
  exact tab_on i _ ht hi hs.1.2 hs.1.1 rfl hQ hw hy hS (h ht hs.2)
theorem lin_off (hi : ops.toList.drop i = oi :: rest) (hQ : ∀ c a w, Q (.panic c) (a.put oi.dst undef) w → Q (.panic c) a w) (hw : Region.wanted oi (yielded ops a.tmps) = false) (hS : S w)
    (h : Lin P tag (m ||| 2 ^ i) r fuel (a.put oi.dst undef) w) : Lin P tag m ((i, true) :: r) (fuel + 1) a w := fun ht hs => by
  simp only [schedOk, Bool.true_and, Bool.not_true, Bool.false_and, Bool.or_false, Bool.and_eq_true] at hs
  exact tab_off i _ ht hi hs.1.2 hs.1.1 rfl hQ hw hS (h ht hs.2)
theorem lin_call (hi : ops.toList.drop i = oi :: rest) (hw : Region.wanted oi (yielded ops a.tmps) = true)
    (h : ∀ K' : Act → World → Prop, Shut (∀ a w, S w → (S w → Lin P tag (m ||| 2 ^ i) r fuel a w) → K' a w) → Oper.wp P oi a w K' Q) : Lin P tag m ((i, false) :: r) (fuel + 1) a w := fun ht hs => by
  simp only [schedOk, Bool.false_and, Bool.not_false, Bool.true_and, Bool.false_or, Bool.and_eq_true] at hs
  refine tab_call i _ ht hi hs.1.1 hs.1.2 rfl fun K' hK => ?_
  rw [if_pos hw]
  exact h K' (fun a w hS hl => hK.out a w hS fun s => hl s ht hs.2)
theorem lin_skip (hi : ops.toList.drop i = oi :: rest) (hw : Region.wanted oi (yielded ops a.tmps) = false) (hS : S w)
    (h : Lin P tag (m ||| 2 ^ i) r fuel (a.put oi.dst undef) w) : Lin P tag m ((i, false) :: r) (fuel + 1) a w := fun ht hs => by
  simp only [schedOk, Bool.false_and, Bool.not_false, Bool.true_and, Bool.false_or, Bool.and_eq_true] at hs
  refine tab_call i _ ht hi hs.1.1 hs.1.2 rfl fun K' hK => ?_
  rw [if_neg (by rw [hw]; decide)]
  exact hK.out _ _ hS fun s => h ht hs.2
theorem lin_done (h : Q .normal a w) : Lin P tag m [] fuel a w := fun ht hs => wpAnyH_done (ready_none ht.2.1 hs) h _
end
end Go.Proofs.YtkeljibnjpinlaaDoor

/- Segments: IsOn of the model. -/
namespace Go.Proofs.YtkeljibnjpinlaaDoor
open Go.ChangeShapes Go.WideShapes Go.ChangeAt Go.RowKit
set_option linter.unusedVariables false

set_option maxHeartbeats 4000000 in
theorem sIsOn_any (a b c d x y : Int) (w : World) :
    Calls Tryd.prog 50 #[SegV a b c d, PtV x y] w fun e w' => e = .returned (.bool (onV a b c d x y)) ∧ Below w.heap.size w w' := by
  have HB := Lib.hid (Vars.of2 w (SegC a b c d) (PtC x y) 60 33)
  go_enter Tryd.func50, Tryd.ntmps50
  go_upto_region 1 with fail
  generalize ((w.alloc (.cells (SegC a b c d) 60)).alloc (.cells (PtC x y) 33)) = wz at HB ⊢
  have HB := Lib.hid HB.out.drew
  refine wp_region_held_drew (S := fun w' => w'.cell? ⟨w.heap.size, 0, none⟩ = some (.int .i64 a) ∧ w'.cell? ⟨w.heap.size, 1, none⟩ = some (.int .i64 b) ∧ w'.cell? ⟨w.heap.size, 2, none⟩ = some (.int .i64 c) ∧ w'.cell? ⟨w.heap.size, 3, none⟩ = some (.int .i64 d) ∧ w'.cell? ⟨w.heap.size + 1, 0, none⟩ = some (.int .i64 x) ∧ w'.cell? ⟨w.heap.size + 1, 1, none⟩ = some (.int .i64 y)) (by kernel_rfl) HB.out.c42p (fun hHeld => ?_)
  refine to_lin (T := [(0, 6, 4), (1, 7, 32), (2, 8, 64), (4, 9, 136), (12, 10, 384), (20, 11, 640), (48, 12, 1024), (64, 13, 2052), (192, 14, 6144), (64, 15, 2052), (576, 16, 18432), (64, 17, 2056), (3392, 18, 108544), (4160, 19, 133120), (8256, 20, 264192), (20480, 21, 524288), (32768, 22, 1048584), (98304, 23, 3145728), (32768, 24, 1048580), (294912, 25, 9437184), (557056, 26, 17825792), (32768, 27, 1048580), (2129920, 28, 68157440), (4227072, 29, 135266304), (9469952, 30, 303038464), (32768, 31, 1048580), (33587200, 32, 1074790400), (67141632, 33, 2148532224), (32768, 34, 1048580), (268468224, 35, 8590983168), (536903680, 36, 17180917760), (1224769536, 37, 38655754240), (2164424704, 38, 69261590528), (4295000064, 39, 137440002048), (12884901888, 40, 274877906944), (17179869184, 41, 549755813896), (51539607552, 42, 1649267441664), (17179869184, 43, 549755813892), (154618822656, 44, 4947802324992), (292057776128, 45, 9345848836096), (17179869184, 46, 549755813892), (1116691496960, 47, 35734127902720), (2216203124736, 48, 70918499991552), (4964982194176, 49, 158879430213632), (17179869184, 50, 549755813892), (17609365913600, 51, 563499709235200), (35201551958016, 52, 1126449662656512), (17179869184, 53, 549755813892), (140754668224512, 54, 4504149383184384), (281492156579840, 55, 9007749010554880), (642131970490368, 56, 20266748078981120), (1134781899210752, 57, 36313020774744064), (2251816993554432, 58, 72058143793741824), (9007199254740991, 5, 144115188075855872)]) (n := 54) [(0, true), (1, false), (2, true), (3, true), (4, false), (5, true), (6, true), (7, true), (8, true), (9, true), (10, true), (11, true), (12, false), (13, true), (14, true), (15, true), (16, true), (17, true), (18, true), (19, true), (20, true), (21, true), (22, true), (23, true), (25, true), (26, true), (27, true), (28, true), (29, true), (30, true), (24, false), (31, false), (32, false), (33, true), (34, true), (35, true), (36, true), (37, true), (38, true), (39, true), (40, true), (41, true), (42, true), (44, true), (45, true), (46, true), (47, true), (48, true), (49, true), (43, false), (50, false), (51, false), (52, true), (53, true)] ⟨by kernel_rfl, by kernel_rfl, by kernel_rfl⟩ (by kernel_rfl) (fun hTag => ?_)
  (refine lin_on (v := ?_) rfl (fun _ _ _ h => h) (by rfl) ?_ (by assumption) ?_; rotate_left; (· (intro wq hSw; go_simp; try with_reducible rfl)); try simp only [Act.put, List.setIfInBounds_toArray, List.set_cons_zero, List.set_cons_succ])
  refine lin_call rfl (by rfl) (fun K hK => ?_)
  go_simp
  go_at_call 46
  cases hs : isS a b c d
  · have HE := Lib.hid (onV_no (x := x) (y := y) hs)
    refine (sIsSegment_is _ _ _ _ _ _ hs).mono ?_
    rintro e w9 ⟨rfl, hb9⟩
    have HB := Lib.hid (HB.out.next hb9)
    clear hb9
    go_wp2_with fail
    refine hK.out _ _ ?_ (fun hHeld => ?_)
    · exact HB.out.c42p
    clear hK K
    try simp only [Act.put, List.setIfInBounds_toArray, List.set_cons_zero, List.set_cons_succ]
    (refine lin_on (v := ?_) rfl (fun _ _ _ h => h) (by rfl) ?_ (by assumption) ?_; rotate_left; (· (intro wq hSw; go_simp; try with_reducible rfl)); try simp only [Act.put, List.setIfInBounds_toArray, List.set_cons_zero, List.set_cons_succ])
    (refine lin_off rfl (fun _ _ _ h => h) (by rfl) (by assumption) ?_; try simp only [Act.put, List.setIfInBounds_toArray, List.set_cons_zero, List.set_cons_succ])
    (refine lin_skip rfl (by rfl) (by assumption) ?_; try simp only [Act.put, List.setIfInBounds_toArray, List.set_cons_zero, List.set_cons_succ])
    iterate 2 (refine lin_on (v := ?_) rfl (fun _ _ _ h => h) (by rfl) ?_ (by assumption) ?_; rotate_left; (· (intro wq hSw; go_simp; try with_reducible rfl)); try simp only [Act.put, List.setIfInBounds_toArray, List.set_cons_zero, List.set_cons_succ])
    iterate 5 (refine lin_off rfl (fun _ _ _ h => h) (by rfl) (by assumption) ?_; try simp only [Act.put, List.setIfInBounds_toArray, List.set_cons_zero, List.set_cons_succ])
    (refine lin_skip rfl (by rfl) (by assumption) ?_; try simp only [Act.put, List.setIfInBounds_toArray, List.set_cons_zero, List.set_cons_succ])
    (refine lin_off rfl (fun _ _ _ h => h) (by rfl) (by assumption) ?_; try simp only [Act.put, List.setIfInBounds_toArray, List.set_cons_zero, List.set_cons_succ])
    iterate 2 (refine lin_on (v := ?_) rfl (fun _ _ _ h => h) (by rfl) ?_ (by assumption) ?_; rotate_left; (· (intro wq hSw; go_simp; try with_reducible rfl)); try simp only [Act.put, List.setIfInBounds_toArray, List.set_cons_zero, List.set_cons_succ])
    iterate 14 (refine lin_off rfl (fun _ _ _ h => h) (by rfl) (by assumption) ?_; try simp only [Act.put, List.setIfInBounds_toArray, List.set_cons_zero, List.set_cons_succ])
    (refine lin_skip rfl (by rfl) (by assumption) ?_; try simp only [Act.put, List.setIfInBounds_toArray, List.set_cons_zero, List.set_cons_succ])
    (refine lin_skip rfl (by rfl) (by assumption) ?_; try simp only [Act.put, List.setIfInBounds_toArray, List.set_cons_zero, List.set_cons_succ])
    (refine lin_skip rfl (by rfl) (by assumption) ?_; try simp only [Act.put, List.setIfInBounds_toArray, List.set_cons_zero, List.set_cons_succ])
    iterate 2 (refine lin_on (v := ?_) rfl (fun _ _ _ h => h) (by rfl) ?_ (by assumption) ?_; rotate_left; (· (intro wq hSw; go_simp; try with_reducible rfl)); try simp only [Act.put, List.setIfInBounds_toArray, List.set_cons_zero, List.set_cons_succ])
    iterate 14 (refine lin_off rfl (fun _ _ _ h => h) (by rfl) (by assumption) ?_; try simp only [Act.put, List.setIfInBounds_toArray, List.set_cons_zero, List.set_cons_succ])
    (refine lin_skip rfl (by rfl) (by assumption) ?_; try simp only [Act.put, List.setIfInBounds_toArray, List.set_cons_zero, List.set_cons_succ])
    (refine lin_skip rfl (by rfl) (by assumption) ?_; try simp only [Act.put, List.setIfInBounds_toArray, List.set_cons_zero, List.set_cons_succ])
    (refine lin_skip rfl (by rfl) (by assumption) ?_; try simp only [Act.put, List.setIfInBounds_toArray, List.set_cons_zero, List.set_cons_succ])
    iterate 2 (refine lin_on (v := ?_) rfl (fun _ _ _ h => h) (by rfl) ?_ (by assumption) ?_; rotate_left; (· (intro wq hSw; go_simp; try with_reducible rfl)); try simp only [Act.put, List.setIfInBounds_toArray, List.set_cons_zero, List.set_cons_succ])
    refine lin_done ?_
    go_wp2
    go_ret
    exact ⟨ret_eq HE.out.symm, HB.out.1⟩
  · refine (sIsSegment_is _ _ _ _ _ _ hs).mono ?_
    rintro e w9 ⟨rfl, hb9⟩
    have HB := Lib.hid (HB.out.next hb9)
    clear hb9
    go_wp2_with fail
    refine hK.out _ _ ?_ (fun hHeld => ?_)
    · exact HB.out.c42p
    clear hK K
    try simp only [Act.put, List.setIfInBounds_toArray, List.set_cons_zero, List.set_cons_succ]
    iterate 2 (refine lin_on (v := ?_) rfl (fun _ _ _ h => h) (by rfl) ?_ (by assumption) ?_; rotate_left; (· (intro wq hSw; go_simp; try with_reducible rfl)); try simp only [Act.put, List.setIfInBounds_toArray, List.set_cons_zero, List.set_cons_succ])
    refine lin_call rfl (by rfl) (fun K hK => ?_)
    go_simp
    go_at_call 49
    cases hp : isP x y
    · have HE := Lib.hid (onV_p (a := a) (b := b) (c := c) (d := d) hp)
      refine (sIsPoint_is _ _ _ _ hp).mono ?_
      rintro e w9 ⟨rfl, hb9⟩
      have HB := Lib.hid (HB.out.next hb9)
      clear hb9
      go_wp2_with fail
      refine hK.out _ _ ?_ (fun hHeld => ?_)
      · exact HB.out.c42p
      clear hK K
      try simp only [Act.put, List.setIfInBounds_toArray, List.set_cons_zero, List.set_cons_succ]
      iterate 2 (refine lin_on (v := ?_) rfl (fun _ _ _ h => h) (by rfl) ?_ (by assumption) ?_; rotate_left; (· (intro wq hSw; go_simp; try with_reducible rfl)); try simp only [Act.put, List.setIfInBounds_toArray, List.set_cons_zero, List.set_cons_succ])
      iterate 5 (refine lin_off rfl (fun _ _ _ h => h) (by rfl) (by assumption) ?_; try simp only [Act.put, List.setIfInBounds_toArray, List.set_cons_zero, List.set_cons_succ])
      (refine lin_skip rfl (by rfl) (by assumption) ?_; try simp only [Act.put, List.setIfInBounds_toArray, List.set_cons_zero, List.set_cons_succ])
      (refine lin_off rfl (fun _ _ _ h => h) (by rfl) (by assumption) ?_; try simp only [Act.put, List.setIfInBounds_toArray, List.set_cons_zero, List.set_cons_succ])
      iterate 2 (refine lin_on (v := ?_) rfl (fun _ _ _ h => h) (by rfl) ?_ (by assumption) ?_; rotate_left; (· (intro wq hSw; go_simp; try with_reducible rfl)); try simp only [Act.put, List.setIfInBounds_toArray, List.set_cons_zero, List.set_cons_succ])
      iterate 14 (refine lin_off rfl (fun _ _ _ h => h) (by rfl) (by assumption) ?_; try simp only [Act.put, List.setIfInBounds_toArray, List.set_cons_zero, List.set_cons_succ])
      (refine lin_skip rfl (by rfl) (by assumption) ?_; try simp only [Act.put, List.setIfInBounds_toArray, List.set_cons_zero, List.set_cons_succ])
      (refine lin_skip rfl (by rfl) (by assumption) ?_; try simp only [Act.put, List.setIfInBounds_toArray, List.set_cons_zero, List.set_cons_succ])
      (refine lin_skip rfl (by rfl) (by assumption) ?_; try simp only [Act.put, List.setIfInBounds_toArray, List.set_cons_zero, List.set_cons_succ])
      iterate 2 (refine lin_on (v := ?_) rfl (fun _ _ _ h => h) (by rfl) ?_ (by assumption) ?_; rotate_left; (· (intro wq hSw; go_simp; try with_reducible rfl)); try simp only [Act.put, List.setIfInBounds_toArray, List.set_cons_zero, List.set_cons_succ])
      iterate 14 (refine lin_off rfl (fun _ _ _ h => h) (by rfl) (by assumption) ?_; try simp only [Act.put, List.setIfInBounds_toArray, List.set_cons_zero, List.set_cons_succ])
      (refine lin_skip rfl (by rfl) (by assumption) ?_; try simp only [Act.put, List.setIfInBounds_toArray, List.set_cons_zero, List.set_cons_succ])
      (refine lin_skip rfl (by rfl) (by assumption) ?_; try simp only [Act.put, List.setIfInBounds_toArray, List.set_cons_zero, List.set_cons_succ])
      (refine lin_skip rfl (by rfl) (by assumption) ?_; try simp only [Act.put, List.setIfInBounds_toArray, List.set_cons_zero, List.set_cons_succ])
      iterate 2 (refine lin_on (v := ?_) rfl (fun _ _ _ h => h) (by rfl) ?_ (by assumption) ?_; rotate_left; (· (intro wq hSw; go_simp; try with_reducible rfl)); try simp only [Act.put, List.setIfInBounds_toArray, List.set_cons_zero, List.set_cons_succ])
      refine lin_done ?_
      go_wp2
      go_ret
      exact ⟨ret_eq HE.out.symm, HB.out.1⟩
    · refine (sIsPoint_is _ _ _ _ hp).mono ?_
      rintro e w9 ⟨rfl, hb9⟩
      have HB := Lib.hid (HB.out.next hb9)
      clear hb9
      go_wp2_with fail
      refine hK.out _ _ ?_ (fun hHeld => ?_)
      · exact HB.out.c42p
      clear hK K
      try simp only [Act.put, List.setIfInBounds_toArray, List.set_cons_zero, List.set_cons_succ]
      iterate 7 (refine lin_on (v := ?_) rfl (fun _ _ _ h => h) (by rfl) ?_ (by assumption) ?_; rotate_left; (· (intro wq hSw; go_simp; try with_reducible rfl)); try simp only [Act.put, List.setIfInBounds_toArray, List.set_cons_zero, List.set_cons_succ])
      refine lin_call rfl (by rfl) (fun K hK => ?_)
      go_simp
      go_at_call 51
      obtain ⟨z, hz⟩ : ∃ z, (c - a) * (y - b) - (d - b) * (x - a) = z := ⟨_, rfl⟩
      by_cases hz0 : z = 0
      · subst hz0
        refine (cross_is a b c d x y 0 _ (isS_at hs).1 (isS_at hs).2.1 (by have := isP_bd hp; omega) hz).mono ?_
        rintro e w9 ⟨rfl, hb9⟩
        have HB := Lib.hid (HB.out.next hb9)
        clear hb9
        go_wp2_with fail
        have HZ := Lib.hid hz
        clear hz
        refine hK.out _ _ ?_ (fun hHeld => ?_)
        · exact HB.out.c42p
        clear hK K
        try simp only [Act.put, List.setIfInBounds_toArray, List.set_cons_zero, List.set_cons_succ]
        iterate 17 (refine lin_on (v := ?_) rfl (fun _ _ _ h => h) (by rfl) ?_ (by assumption) ?_; rotate_left; (· (intro wq hSw; go_simp; try with_reducible rfl)); try simp only [Act.put, List.setIfInBounds_toArray, List.set_cons_zero, List.set_cons_succ])
        refine lin_call rfl (by rfl) (fun K hK => ?_)
        go_simp
        go_at_call 72
        refine (smin_any _ _ _).mono ?_
        rintro e w' ⟨rfl, rfl⟩
        go_wp2_with fail
        refine hK.out _ _ ?_ (fun hHeld => ?_)
        · exact hHeld
        clear hK K
        try simp only [Act.put, List.setIfInBounds_toArray, List.set_cons_zero, List.set_cons_succ]
        refine lin_call rfl (by rfl) (fun K hK => ?_)
        go_simp
        go_at_call 71
        refine (smax_any _ _ _).mono ?_
        rintro e w' ⟨rfl, rfl⟩
        go_wp2_with fail
        refine hK.out _ _ ?_ (fun hHeld => ?_)
        · exact hHeld
        clear hK K
        try simp only [Act.put, List.setIfInBounds_toArray, List.set_cons_zero, List.set_cons_succ]
        refine lin_call rfl (by rfl) (fun K hK => ?_)
        go_simp
        go_at_call 44
        cases hx : inB x (extV false a c) (extV true a c)
        · have HE := Lib.hid (on_xn (b := b) (d := d) (y := y) hx)
          refine (l1in_is _ _ _ _ _ hx).mono ?_
          rintro e w' ⟨rfl, rfl⟩
          go_wp2_with fail
          refine hK.out _ _ ?_ (fun hHeld => ?_)
          · exact hHeld
          clear hK K
          try simp only [Act.put, List.setIfInBounds_toArray, List.set_cons_zero, List.set_cons_succ]
          iterate 2 (refine lin_on (v := ?_) rfl (fun _ _ _ h => h) (by rfl) ?_ (by assumption) ?_; rotate_left; (· (intro wq hSw; go_simp; try with_reducible rfl)); try simp only [Act.put, List.setIfInBounds_toArray, List.set_cons_zero, List.set_cons_succ])
          iterate 14 (refine lin_off rfl (fun _ _ _ h => h) (by rfl) (by assumption) ?_; try simp only [Act.put, List.setIfInBounds_toArray, List.set_cons_zero, List.set_cons_succ])
          (refine lin_skip rfl (by rfl) (by assumption) ?_; try simp only [Act.put, List.setIfInBounds_toArray, List.set_cons_zero, List.set_cons_succ])
          (refine lin_skip rfl (by rfl) (by assumption) ?_; try simp only [Act.put, List.setIfInBounds_toArray, List.set_cons_zero, List.set_cons_succ])
          (refine lin_skip rfl (by rfl) (by assumption) ?_; try simp only [Act.put, List.setIfInBounds_toArray, List.set_cons_zero, List.set_cons_succ])
          iterate 2 (refine lin_on (v := ?_) rfl (fun _ _ _ h => h) (by rfl) ?_ (by assumption) ?_; rotate_left; (· (intro wq hSw; go_simp; try with_reducible rfl)); try simp only [Act.put, List.setIfInBounds_toArray, List.set_cons_zero, List.set_cons_succ])
          refine lin_done ?_
          go_wp2
          go_ret
          exact ⟨ret_eq HE.out.symm, HB.out.1⟩
        · refine (l1in_is _ _ _ _ _ hx).mono ?_
          rintro e w' ⟨rfl, rfl⟩
          go_wp2_with fail
          refine hK.out _ _ ?_ (fun hHeld => ?_)
          · exact hHeld
          clear hK K
          try simp only [Act.put, List.setIfInBounds_toArray, List.set_cons_zero, List.set_cons_succ]
          iterate 16 (refine lin_on (v := ?_) rfl (fun _ _ _ h => h) (by rfl) ?_ (by assumption) ?_; rotate_left; (· (intro wq hSw; go_simp; try with_reducible rfl)); try simp only [Act.put, List.setIfInBounds_toArray, List.set_cons_zero, List.set_cons_succ])
          refine lin_call rfl (by rfl) (fun K hK => ?_)
          go_simp
          go_at_call 72
          refine (smin_any _ _ _).mono ?_
          rintro e w' ⟨rfl, rfl⟩
          go_wp2_with fail
          refine hK.out _ _ ?_ (fun hHeld => ?_)
          · exact hHeld
          clear hK K
          try simp only [Act.put, List.setIfInBounds_toArray, List.set_cons_zero, List.set_cons_succ]
          refine lin_call rfl (by rfl) (fun K hK => ?_)
          go_simp
          go_at_call 71
          refine (smax_any _ _ _).mono ?_
          rintro e w' ⟨rfl, rfl⟩
          go_wp2_with fail
          refine hK.out _ _ ?_ (fun hHeld => ?_)
          · exact hHeld
          clear hK K
          try simp only [Act.put, List.setIfInBounds_toArray, List.set_cons_zero, List.set_cons_succ]
          refine lin_call rfl (by rfl) (fun K hK => ?_)
          go_simp
          go_at_call 44
          cases hy : inB y (extV false b d) (extV true b d)
          · have HE := Lib.hid (on_yn (a := a) (c := c) (x := x) hy)
            refine (l1in_is _ _ _ _ _ hy).mono ?_
            rintro e w' ⟨rfl, rfl⟩
            go_wp2_with fail
            refine hK.out _ _ ?_ (fun hHeld => ?_)
            · exact hHeld
            clear hK K
            try simp only [Act.put, List.setIfInBounds_toArray, List.set_cons_zero, List.set_cons_succ]
            iterate 2 (refine lin_on (v := ?_) rfl (fun _ _ _ h => h) (by rfl) ?_ (by assumption) ?_; rotate_left; (· (intro wq hSw; go_simp; try with_reducible rfl)); try simp only [Act.put, List.setIfInBounds_toArray, List.set_cons_zero, List.set_cons_succ])
            refine lin_done ?_
            go_wp2
            go_ret
            exact ⟨ret_eq HE.out.symm, HB.out.1⟩
          · have HE := Lib.hid (on_all hs HZ.out hx hy)
            refine (l1in_is _ _ _ _ _ hy).mono ?_
            rintro e w' ⟨rfl, rfl⟩
            go_wp2_with fail
            refine hK.out _ _ ?_ (fun hHeld => ?_)
            · exact hHeld
            clear hK K
            try simp only [Act.put, List.setIfInBounds_toArray, List.set_cons_zero, List.set_cons_succ]
            iterate 2 (refine lin_on (v := ?_) rfl (fun _ _ _ h => h) (by rfl) ?_ (by assumption) ?_; rotate_left; (· (intro wq hSw; go_simp; try with_reducible rfl)); try simp only [Act.put, List.setIfInBounds_toArray, List.set_cons_zero, List.set_cons_succ])
            refine lin_done ?_
            go_wp2
            go_ret
            exact ⟨ret_eq HE.out.symm, HB.out.1⟩
      · have HE := Lib.hid (on_z hz hz0)
        refine (cross_is a b c d x y z _ (isS_at hs).1 (isS_at hs).2.1 (by have := isP_bd hp; omega) hz).mono ?_
        rintro e w9 ⟨rfl, hb9⟩
        have HB := Lib.hid (HB.out.next hb9)
        clear hb9
        go_wp2_with fail
        clear hz
        have hzb : (z == 0) = false := by simpa using hz0
        refine hK.out _ _ ?_ (fun hHeld => ?_)
        · exact HB.out.c42p
        clear hK K
        try simp only [Act.put, List.setIfInBounds_toArray, List.set_cons_zero, List.set_cons_succ]
        iterate 3 (refine lin_on (v := ?_) rfl (fun _ _ _ h => h) (by rfl) ?_ (by assumption) ?_; rotate_left; (· (intro wq hSw; go_simp; try with_reducible rfl)); try simp only [Act.put, List.setIfInBounds_toArray, List.set_cons_zero, List.set_cons_succ])
        iterate 14 (refine lin_off rfl (fun _ _ _ h => h) (by rfl) (by assumption) ?_; try simp only [Act.put, List.setIfInBounds_toArray, List.set_cons_zero, List.set_cons_succ])
        (refine lin_skip rfl (by rfl) (by assumption) ?_; try simp only [Act.put, List.setIfInBounds_toArray, List.set_cons_zero, List.set_cons_succ])
        (refine lin_skip rfl (by rfl) (by assumption) ?_; try simp only [Act.put, List.setIfInBounds_toArray, List.set_cons_zero, List.set_cons_succ])
        (refine lin_skip rfl (by rfl) (by assumption) ?_; try simp only [Act.put, List.setIfInBounds_toArray, List.set_cons_zero, List.set_cons_succ])
        iterate 2 (refine lin_on (v := ?_) rfl (fun _ _ _ h => h) (by rfl) ?_ (by assumption) ?_; rotate_left; (· (intro wq hSw; go_simp; try with_reducible rfl)); try simp only [Act.put, List.setIfInBounds_toArray, List.set_cons_zero, List.set_cons_succ])
        iterate 14 (refine lin_off rfl (fun _ _ _ h => h) (by rfl) (by assumption) ?_; try simp only [Act.put, List.setIfInBounds_toArray, List.set_cons_zero, List.set_cons_succ])
        (refine lin_skip rfl (by rfl) (by assumption) ?_; try simp only [Act.put, List.setIfInBounds_toArray, List.set_cons_zero, List.set_cons_succ])
        (refine lin_skip rfl (by rfl) (by assumption) ?_; try simp only [Act.put, List.setIfInBounds_toArray, List.set_cons_zero, List.set_cons_succ])
        (refine lin_skip rfl (by rfl) (by assumption) ?_; try simp only [Act.put, List.setIfInBounds_toArray, List.set_cons_zero, List.set_cons_succ])
        iterate 2 (refine lin_on (v := ?_) rfl (fun _ _ _ h => h) (by rfl) ?_ (by assumption) ?_; rotate_left; (· (intro wq hSw; go_simp; try with_reducible rfl)); try simp only [Act.put, List.setIfInBounds_toArray, List.set_cons_zero, List.set_cons_succ])
        refine lin_done ?_
        go_wp2
        go_ret
        exact ⟨ret_eq HE.out.symm, HB.out.1⟩
theorem sIsOn_is (a b c d x y : Int) (k : Bool) (w : World) (h : onV a b c d x y = k) :
    Calls Tryd.prog 50 #[SegV a b c d, PtV x y] w fun e w' => e = .returned (.bool k) ∧ Below w.heap.size w w' := by
  subst h; exact sIsOn_any a b c d x y w
end Go.Proofs.YtkeljibnjpinlaaDoor
