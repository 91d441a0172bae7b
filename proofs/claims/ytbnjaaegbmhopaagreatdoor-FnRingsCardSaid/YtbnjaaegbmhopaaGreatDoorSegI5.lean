/- Segments: how two segments meet, in package impl. -/
import Derived.Test.YtbnjaaegbmhopaaGreatDoorSegI4
import Derived.ChangeKeysEq
namespace Go.Proofs.YtbnjaaegbmhopaaGreatDoor
open Go.ChangeShapes Go.WideShapes Go.ChangeAt Go.RowKit
set_option linter.unusedVariables false

/-- Two pairs of marks are compared. -/
theorem eqMk (m n u v : Int) (w : World) : Sem.run Tryz.prog (Op.equalIn 10000 175 (Value.agg #[Value.int IntKind.i32 m, Value.int IntKind.i32 n]) (Value.agg #[Value.int IntKind.i32 u, Value.int IntKind.i32 v])) w = .ok (m == u && n == v) w := by
  have hc : Tryz.prog.cellsOf 21 = 1 := by kernel_rfl
  obtain ⟨i, hi⟩ : ∃ i, Tryz.prog.info? 21 = some i := Option.isSome_iff_exists.1 (by kernel_rfl)
  have p0 (x y : Int) : (part 21 #[Value.int IntKind.i32 x, Value.int IntKind.i32 y] (0 * 1)).run Tryz.prog w = .ok (.int .i32 x) w := by kernel_rfl
  have p1 (x y : Int) : (part 21 #[Value.int IntKind.i32 x, Value.int IntKind.i32 y] (1 * 1)).run Tryz.prog w = .ok (.int .i32 y) w := by kernel_rfl
  rw [run_equalIn_array w 9999 _ _ Tryz.underlying175 hi, hc, show List.range 2 = [0, 1] from rfl]
  simp only [Op.eqItems, Sem.run_bind, p0, Result.andThen_ok]
  rw [run_equalIn_int w 9998 _ _ _ _ _ Tryz.underlying21]
  cases h : (m == u)
  · simp
  · rw [Result.andThen_ok]
    simp [p1]
    rw [run_equalIn_int w 9998 _ _ _ _ _ Tryz.underlying21]
    cases h : (n == v) <;> simp
theorem eqMk_is (m n u v : Int) (k : Bool) (h : (m == u && n == v) = k) (w : World) : Sem.run Tryz.prog (Op.equalIn 10000 175 (Value.agg #[Value.int IntKind.i32 m, Value.int IntKind.i32 n]) (Value.agg #[Value.int IntKind.i32 u, Value.int IntKind.i32 v])) w = .ok k w := by
  subst h; exact eqMk m n u v w
theorem rune_zero {a b c d x y : Int} : runeV (sideV a b c d x y) = 48 ↔ sideV a b c d x y = 0 := by
  rcases sides3 a b c d x y with h | h | h <;> rw [h] <;> decide
theorem ord_apart {a b c d p q r s : Int} : ordB (max (min a c) (min p r)) (max (min b d) (min q s)) (min (max a c) (max p r)) (min (max b d) (max q s)) = false ↔ Apart a b c d p q r s := by
  unfold Apart ordB
  rw [Bool.and_eq_false_iff, decide_eq_false_iff_not, decide_eq_false_iff_not, Int.not_le, Int.not_le]
theorem ord_meet {a b c d p q r s : Int} (h : ¬ Apart a b c d p q r s) : ordB (max (min a c) (min p r)) (max (min b d) (min q s)) (min (max a c) (max p r)) (min (max b d) (max q s)) = true := by
  cases h' : ordB (max (min a c) (min p r)) (max (min b d) (min q s)) (min (max a c) (max p r)) (min (max b d) (max q s))
  · exact absurd (ord_apart.1 h') h
  · rfl
/-- How two segments meet, by the marks of their ends. -/
theorem how_marks {a b c d p q r s m n u v : Int} (hs : isS a b c d = true) (ht : isS p q r s = true) (hx : ¬ Apart a b c d p q r s)
    (hm : runeV (sideV a b c d p q) = m) (hn : runeV (sideV a b c d r s) = n) (hu : runeV (sideV p q r s a b) = u) (hv : runeV (sideV p q r s c d) = v) :
    howV a b c d p q r s = if m = 48 ∧ n = 48 then (if Spot a b c d p q r s then 1 else 3) else markW m n u v := by
  unfold howV
  rw [if_pos ⟨hs, ht⟩, if_neg hx, ← hm, ← hn, ← hu, ← hv, markW_eq (sides3 _ _ _ _ _ _) (sides3 _ _ _ _ _ _) (sides3 _ _ _ _ _ _) (sides3 _ _ _ _ _ _)]
  simp only [rune_zero]
theorem oneLine_is (a b c d z : Int) (w : World) (h : (if a = c ∧ b = d then 1 else 3) = z) :
    Calls Tryz.prog 132 #[SegV a b c d] w fun e w' => e = .returned (.int .i64 z) ∧ Below w.heap.size w w' := by
  subst h; exact oneLine_any a b c d w
theorem markEnds_is (a b c d p q r s m n : Int) (w : World) (hm : runeV (sideV a b c d p q) = m) (hn : runeV (sideV a b c d r s) = n) :
    Calls Tryz.prog 131 #[SegV a b c d, SegV p q r s] w fun e w' => e = .returned (MkV m n) ∧ Below w.heap.size w w' := by
  subst hm hn; exact markEnds_any a b c d p q r s w
theorem howMeet_no (a b c d p q r s : Int) (w : World) (h : ¬ (isS a b c d = true ∧ isS p q r s = true)) :
    Calls Tryz.prog 95 #[SegV a b c d, SegV p q r s] w fun e w' => e = .returned (.int .i64 (howV a b c d p q r s)) ∧ Below w.heap.size w w' := by
  have HE := Lib.hid (how_no h)
  have HB := Lib.hid (Vars.of2 w (SegC a b c d) (SegC p q r s) 78 78)
  go_enter Tryz.func95, Tryz.ntmps95
  cases hs : isS a b c d
  · go_wp2_with fail
    refine (boxS_no a b c d _ hs).mono ?_
    rintro e w1 ⟨rfl, hb1⟩
    have HB1 := Lib.hid ((HB.out.next hb1).al (.cells NoC 125))
    clear hb1 HB
    obtain ⟨k0, k1, k2, k3, k4, k5, k6, k7⟩ := HB1.out.c44
    go_wp2_with fail
    cases ht : isS p q r s
    · refine (boxS_no p q r s _ ht).mono ?_
      rintro e w2 ⟨rfl, hb2⟩
      have HB2 := Lib.hid ((HB1.out.next hb2).al (.cells NoC 125))
      clear hb2
      go_wp2
      go_ret
      exact ⟨ret_int HE.out.symm, HB2.out.1⟩
    · refine (boxS_yes p q r s _ ht).mono ?_
      rintro e w2 ⟨rfl, hb2⟩
      have HB2 := Lib.hid ((HB1.out.next hb2).al (.cells (BoxedC p q r s) 125))
      clear hb2
      go_wp2
      go_ret
      exact ⟨ret_int HE.out.symm, HB2.out.1⟩
  · have ht : isS p q r s = false := by cases ht : isS p q r s with
      | false => rfl
      | true => exact absurd ⟨hs, ht⟩ h
    go_wp2_with fail
    refine (boxS_yes a b c d _ hs).mono ?_
    rintro e w1 ⟨rfl, hb1⟩
    have HB1 := Lib.hid ((HB.out.next hb1).al (.cells (BoxedC a b c d) 125))
    clear hb1 HB
    obtain ⟨k0, k1, k2, k3, k4, k5, k6, k7⟩ := HB1.out.c44
    go_wp2_with fail
    refine (boxS_no p q r s _ ht).mono ?_
    rintro e w2 ⟨rfl, hb2⟩
    have HB2 := Lib.hid ((HB1.out.next hb2).al (.cells NoC 125))
    clear hb2
    go_wp2
    go_ret
    exact ⟨ret_int HE.out.symm, HB2.out.1⟩
set_option maxHeartbeats 4000000 in
theorem howMeet_yes (a b c d p q r s : Int) (w : World) (hs : isS a b c d = true) (ht : isS p q r s = true) :
    Calls Tryz.prog 95 #[SegV a b c d, SegV p q r s] w fun e w' => e = .returned (.int .i64 (howV a b c d p q r s)) ∧ Below w.heap.size w w' := by
  have HB := Lib.hid (Vars.of2 w (SegC a b c d) (SegC p q r s) 78 78)
  go_enter Tryz.func95, Tryz.ntmps95
  go_wp2_with fail
  refine (boxS_yes a b c d _ hs).mono ?_
  rintro e w1 ⟨rfl, hb1⟩
  have HB1 := Lib.hid ((HB.out.next hb1).al (.cells (BoxedC a b c d) 125))
  have H51 := Lib.hid (Vars.of1 w1 (BoxedC a b c d) 125)
  clear hb1 HB
  obtain ⟨k0, k1, k2, k3, k4, k5, k6, k7⟩ := HB1.out.c44
  go_wp2_with fail
  refine (boxS_yes p q r s _ ht).mono ?_
  rintro e w2 ⟨rfl, hb2⟩
  have HB2 := Lib.hid ((HB1.out.next hb2).al (.cells (BoxedC p q r s) 125))
  have H52 := Lib.hid ((H51.out.next hb2).al (.cells (BoxedC p q r s) 125))
  have H72 := Lib.hid (Vars.of1 w2 (BoxedC p q r s) 125)
  clear hb2 HB1 H51 k0 k1 k2 k3 k4 k5 k6 k7
  obtain ⟨k0, k1, k2, k3, k4, k5, k6, k7⟩ := H52.out.c8 w1.heap.size 0 rfl rfl
  go_wp2_with fail
  refine (share_any _ _ _ _ _ _ _ _ _).mono ?_
  rintro e w3 ⟨rfl, hb3⟩
  by_cases hx : Apart a b c d p q r s
  · have HE := Lib.hid (how_apart hx)
    have HN := Lib.hid (ord_apart.2 hx)
    obtain ⟨lx, hlx⟩ : ∃ z, max (min a c) (min p r) = z := ⟨_, rfl⟩
    obtain ⟨ly, hly⟩ : ∃ z, max (min b d) (min q s) = z := ⟨_, rfl⟩
    obtain ⟨hx', hhx⟩ : ∃ z, min (max a c) (max p r) = z := ⟨_, rfl⟩
    obtain ⟨hy', hhy⟩ : ∃ z, min (max b d) (max q s) = z := ⟨_, rfl⟩
    rw [hlx, hly, hhx, hhy] at HN ⊢
    clear hlx hly hhx hhy hx
    have HB3 := Lib.hid ((HB2.out.next hb3).al (.cells (SegC lx ly hx' hy') 123))
    have H93 := Lib.hid (Vars.of1 w3 (SegC lx ly hx' hy') 123)
    clear hb3 HB2 H52 H72 k0 k1 k2 k3 k4 k5 k6 k7 hs ht
    obtain ⟨k0, k1, k2, k3⟩ := H93.out.c40
    go_wp2_with fail
    refine (ord_is _ _ _ _ false _ HN.out).mono ?_
    rintro e w4 ⟨rfl, hb4⟩
    have HB4 := Lib.hid (HB3.out.next hb4)
    clear hb4
    go_wp2
    go_ret
    exact ⟨ret_int HE.out.symm, HB4.out.1⟩
  · have HN := Lib.hid (ord_meet hx)
    obtain ⟨lx, hlx⟩ : ∃ z, max (min a c) (min p r) = z := ⟨_, rfl⟩
    obtain ⟨ly, hly⟩ : ∃ z, max (min b d) (min q s) = z := ⟨_, rfl⟩
    obtain ⟨hx', hhx⟩ : ∃ z, min (max a c) (max p r) = z := ⟨_, rfl⟩
    obtain ⟨hy', hhy⟩ : ∃ z, min (max b d) (max q s) = z := ⟨_, rfl⟩
    have HSp : Hid (Spot a b c d p q r s ↔ lx = hx' ∧ ly = hy') := Lib.hid (by unfold Spot; rw [hlx, hly, hhx, hhy])
    rw [hlx, hly, hhx, hhy] at HN ⊢
    clear hlx hly hhx hhy
    have HB3' := Lib.hid ((HB2.out.next hb3).al (.cells (SegC lx ly hx' hy') 123))
    have H53' := Lib.hid ((H52.out.next hb3).al (.cells (SegC lx ly hx' hy') 123))
    have H73' := Lib.hid ((H72.out.next hb3).al (.cells (SegC lx ly hx' hy') 123))
    have H93' := Lib.hid (Vars.of1 w3 (SegC lx ly hx' hy') 123)
    clear hb3 HB2 H52 H72 k0 k1 k2 k3 k4 k5 k6 k7
    obtain ⟨k0, k1, k2, k3⟩ := H93'.out.c40
    go_wp2_with fail
    refine (ord_is _ _ _ _ true _ HN.out).mono ?_
    rintro e wo ⟨rfl, hbo⟩
    have HB3 := Lib.hid (HB3'.out.next hbo)
    have H53 := Lib.hid (H53'.out.next hbo)
    have H73 := Lib.hid (H73'.out.next hbo)
    have H93 := Lib.hid (H93'.out.next hbo)
    clear hbo HB3' H53' H73' H93' k0 k1 k2 k3
    obtain ⟨m, hm⟩ : ∃ m, runeV (sideV a b c d p q) = m := ⟨_, rfl⟩
    obtain ⟨n, hn⟩ : ∃ m, runeV (sideV a b c d r s) = m := ⟨_, rfl⟩
    obtain ⟨u, hu⟩ : ∃ m, runeV (sideV p q r s a b) = m := ⟨_, rfl⟩
    obtain ⟨v, hv⟩ : ∃ m, runeV (sideV p q r s c d) = m := ⟨_, rfl⟩
    have HE := Lib.hid (how_marks hs ht hx hm hn hu hv)
    have HM := Lib.hid hm
    have HN := Lib.hid hn
    have HU := Lib.hid hu
    have HV := Lib.hid hv
    clear hm hn hu hv hs ht hx
    obtain ⟨k0, k1, k2, k3, k4, k5, k6, k7⟩ := H53.out.c8 w1.heap.size 0 rfl rfl
    obtain ⟨j0, j1, j2, j3, j4, j5, j6, j7⟩ := H73.out.c8 w2.heap.size 0 rfl rfl
    go_wp2_with fail
    refine (markEnds_is a b c d p q r s m n _ HM.out HN.out).mono ?_
    rintro e w4 ⟨rfl, hb4⟩
    have HB4 := Lib.hid ((HB3.out.next hb4).al (.cells (MkC m n) 175))
    have H54 := Lib.hid ((H53.out.next hb4).al (.cells (MkC m n) 175))
    have H74 := Lib.hid ((H73.out.next hb4).al (.cells (MkC m n) 175))
    have H94 := Lib.hid ((H93.out.next hb4).al (.cells (MkC m n) 175))
    have HC4 := Lib.hid (Vars.of1 w4 (MkC m n) 175)
    clear hb4 HB3 H53 H73 H93 k0 k1 k2 k3 k4 k5 k6 k7 j0 j1 j2 j3 j4 j5 j6 j7
    by_cases hmn : m = 48 ∧ n = 48
    · obtain ⟨rfl, rfl⟩ := hmn
      have HF : Hid ((if lx = hx' ∧ ly = hy' then 1 else 3) = howV a b c d p q r s) := Lib.hid (by rw [HE.out.trans (if_pos ⟨rfl, rfl⟩)]; simp [HSp.out])
      clear HE
      have em := eqMk_is 48 48 48 48 true (by decide)
      obtain ⟨k0, k1, k2, k3⟩ := H94.out.c40
      go_wp2_with fail
      refine (oneLine_is _ _ _ _ _ _ HF.out).mono ?_
      rintro e w5 ⟨rfl, hb5⟩
      have HB5 := Lib.hid (HB4.out.next hb5)
      clear hb5
      go_wp2
      go_ret
      exact ⟨rfl, HB5.out.1⟩
    · have HF : Hid (howV a b c d p q r s = markW m n u v) := Lib.hid (by rw [HE.out, if_neg hmn])
      clear HE
      have em := eqMk_is m n 48 48 false (by simp; omega)
      have HB5 := Lib.hid HB4.out.drew
      obtain ⟨k0, k1, k2, k3, k4, k5, k6, k7⟩ := H54.out.drew.c8 w1.heap.size 0 rfl rfl
      obtain ⟨j0, j1, j2, j3, j4, j5, j6, j7⟩ := H74.out.drew.c8 w2.heap.size 0 rfl rfl
      obtain ⟨i0, i1⟩ := HC4.out.drew.c20
      go_upto_region 11 with fail
      clear k4 k5 k6 k7 j4 j5 j6 j7
      go_region_held3 (fun w' => w'.cell? ⟨w1.heap.size, 0, none⟩ = some (.int .i64 a) ∧ w'.cell? ⟨w1.heap.size, 1, none⟩ = some (.int .i64 b) ∧ w'.cell? ⟨w1.heap.size, 2, none⟩ = some (.int .i64 c) ∧ w'.cell? ⟨w1.heap.size, 3, none⟩ = some (.int .i64 d) ∧ w'.cell? ⟨w2.heap.size, 0, none⟩ = some (.int .i64 p) ∧ w'.cell? ⟨w2.heap.size, 1, none⟩ = some (.int .i64 q) ∧ w'.cell? ⟨w2.heap.size, 2, none⟩ = some (.int .i64 r) ∧ w'.cell? ⟨w2.heap.size, 3, none⟩ = some (.int .i64 s) ∧ w'.cell? ⟨w4.heap.size, 0, none⟩ = some (.int .i32 m) ∧ w'.cell? ⟨w4.heap.size, 1, none⟩ = some (.int .i32 n)) (first | with_reducible exact ⟨k0, k1, k2, k3, j0, j1, j2, j3, i0, i1⟩) (first
        | (go_at_call 131; refine (markEnds_is _ _ _ _ _ _ _ _ _ _ _ HU.out HV.out).mono ?_; rintro e w9 ⟨rfl, hb9⟩; have HB9 := Lib.hid (HB5.out.next hb9); have H59 := Lib.hid (H54.out.drew.next hb9); have H79 := Lib.hid (H74.out.drew.next hb9); have HC9 := Lib.hid (HC4.out.drew.next hb9); obtain ⟨k0, k1, k2, k3, k4, k5, k6, k7⟩ := H59.out.c8 w1.heap.size 0 rfl rfl; obtain ⟨j0, j1, j2, j3, j4, j5, j6, j7⟩ := H79.out.c8 w2.heap.size 0 rfl rfl; obtain ⟨i0, i1⟩ := HC9.out.c20)
        | (go_at_call 133; refine (byMarks_any _ _ _ _ _).mono ?_; rintro e w8 ⟨rfl, hb8⟩; have HB8 := Lib.hid (HB9.out.next hb8); obtain ⟨k0, k1, k2, k3, k4, k5, k6, k7⟩ := (H59.out.next hb8).c8 w1.heap.size 0 rfl rfl; obtain ⟨j0, j1, j2, j3, j4, j5, j6, j7⟩ := (H79.out.next hb8).c8 w2.heap.size 0 rfl rfl; obtain ⟨i0, i1⟩ := (HC9.out.next hb8).c20) | fail)
      all_goals
        go_wp2
        go_ret
        exact ⟨ret_int HF.out.symm, HB8.out.1⟩
theorem howMeet_any (a b c d p q r s : Int) (w : World) :
    Calls Tryz.prog 95 #[SegV a b c d, SegV p q r s] w fun e w' => e = .returned (.int .i64 (howV a b c d p q r s)) ∧ Below w.heap.size w w' := by
  by_cases h : isS a b c d = true ∧ isS p q r s = true
  · exact howMeet_yes a b c d p q r s w h.1 h.2
  · exact howMeet_no a b c d p q r s w h
end Go.Proofs.YtbnjaaegbmhopaaGreatDoor
