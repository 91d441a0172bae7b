/- The exact laws of chapter 5: their walks. -/
import Derived.Test.YtjgkjeingjfabaaSegOn
import Derived.Test.YtjgkjeingjfabaaVars2
namespace Go.Proofs.Ytjgkjeingjfabaa
open Go.ChangeShapes Go.WideShapes Go.ChangeAt Go.RowKit
set_option linter.unusedVariables false

theorem toSegment_any (a b c d : Int) (w : World) :
    Calls Try.prog 19 #[SegV a b c d] w fun e w' => e = .returned (SegV a b c d) ∧ Below w.heap.size w w' := by
  have HB := Lib.hid (Vars.of3 w (SegC a b c d) (SegC 0 0 0 0) (SegC 0 0 0 0) 38 27 27)
  go_enter Try.func19, Try.ntmps19
  obtain ⟨k0, k1, k2, k3⟩ := HB.out.c40
  go_wp2_with fail
  refine (toPoint_any _ _ _).mono ?_
  rintro e w1 ⟨rfl, hb1⟩
  have HB1 := Lib.hid (HB.out.next hb1)
  clear hb1 HB k0 k1 k2 k3
  obtain ⟨k0, k1, k2, k3⟩ := HB1.out.c40
  obtain ⟨f0, f1, f2, f3⟩ := HB1.out.fr42
  obtain ⟨j0, j1, j2, j3⟩ := HB1.out.c42
  go_wp2_with fail
  refine (toPoint_any _ _ _).mono ?_
  rintro e w2 ⟨rfl, hb2⟩
  have HB2 := Lib.hid ((HB1.out.set2At (w.heap.size + 1 + 1) 2 0 rfl rfl (.int .i64 a) (.int .i64 b)).next hb2)
  clear hb2 HB1 k0 k1 k2 k3 f0 f1 f2 f3 j0 j1 j2 j3
  obtain ⟨k0, k1, k2, k3⟩ := HB2.out.c40
  obtain ⟨j0, j1, j2, j3⟩ := HB2.out.c42
  obtain ⟨q0, q1, q2, q3⟩ := HB2.out.c41
  obtain ⟨f0, f1, f2, f3⟩ := HB2.out.fr42
  obtain ⟨g0, g1, g2, g3⟩ : _ ∧ _ ∧ _ ∧ _ := ⟨HB2.out.frozen (w.heap.size + 1) 1 0 rfl rfl, HB2.out.frozen (w.heap.size + 1) 1 1 rfl rfl, HB2.out.frozen (w.heap.size + 1) 1 2 rfl rfl, HB2.out.frozen (w.heap.size + 1) 1 3 rfl rfl⟩
  go_wp2
  refine bodyPost_ret (v := SegV a b c d) (by simp [results, Try.results19, go_sem, q0, q1, q2, q3]) rfl ⟨rfl, ?_⟩
  exact (Vars.set40 (HB2.out.set2At (w.heap.size + 1 + 1) 2 2 rfl rfl (.int .i64 c) (.int .i64 d)) (by omega) _ _ _ _)
theorem eqSegment_yes (a b c d : Int) (w : World) :
    Calls Try.prog 24 #[SegV a b c d, SegV a b c d] w fun e w' => e = .returned (.bool true) ∧ Below w.heap.size w w' := by
  have HB := Lib.hid (Vars.of2 w (SegC a b c d) (SegC a b c d) 27 27)
  go_enter Try.func24, Try.ntmps24
  obtain ⟨k0, k1, k2, k3, k4, k5, k6, k7⟩ := HB.out.c44
  go_wp2_with fail
  refine (eqPoint_any _ _ _ _ _).mono ?_
  rintro e w1 ⟨rfl, hb1⟩
  have HB1 := Lib.hid (HB.out.next hb1)
  clear hb1 HB k0 k1 k2 k3 k4 k5 k6 k7
  obtain ⟨k0, k1, k2, k3, k4, k5, k6, k7⟩ := HB1.out.c44
  have t1 : decide (a = a ∧ b = b) = true := by simp
  have t2 : decide (c = c ∧ d = d) = true := by simp
  go_wp2_with fail
  refine (eqPoint_any _ _ _ _ _).mono ?_
  rintro e w2 ⟨rfl, hb2⟩
  have HB2 := Lib.hid (HB1.out.next hb2)
  clear hb2 HB1
  go_wp2
  go_ret
  exact ⟨rfl, HB2.out.1⟩
theorem law_isSegment (a b c d : Int) (w : World) (wa : (Lit.int .i64 a).wf = true) (wb : (Lit.int .i64 b).wf = true) (wc : (Lit.int .i64 c).wf = true) (wd : (Lit.int .i64 d).wf = true) :
    Calls Try.prog 4 #[SegV a b c d] w fun e w' => e = .returned (.bool true) ∧ Below w.heap.size w w' := by
  clear wa wb wc wd
  have HB := Lib.hid (Vars.of1 w (SegC a b c d) 38)
  obtain ⟨k, hk⟩ : ∃ k, isS a b c d = k := ⟨_, rfl⟩
  have HK := Lib.hid hk
  clear hk
  go_enter Try.func4, Try.ntmps4
  obtain ⟨k0, k1, k2, k3⟩ := HB.out.c40
  go_wp2_with fail
  refine (toSegment_any _ _ _ _ _).mono ?_
  rintro e w1 ⟨rfl, hb1⟩
  have HB1 := Lib.hid (HB.out.next hb1)
  clear hb1 HB k0 k1 k2 k3
  go_wp2_with fail
  refine (sIsSegment_is _ _ _ _ _ _ HK.out).mono ?_
  rintro e w2 ⟨rfl, hb2⟩
  have HB2 := Lib.hid (HB1.out.next hb2)
  clear hb2 HB1
  obtain ⟨k0, k1, k2, k3⟩ := HB2.out.c40
  go_wp2_with fail
  refine (toSegment_any _ _ _ _ _).mono ?_
  rintro e w3 ⟨rfl, hb3⟩
  have HB3 := Lib.hid (HB2.out.next hb3)
  clear hb3 HB2 k0 k1 k2 k3
  go_wp2_with fail
  refine (isSegment_any _ _ _ _ _).mono ?_
  rw [HK.out]
  rintro e w4 ⟨rfl, hb4⟩
  have HB4 := Lib.hid (HB3.out.next hb4)
  clear hb4 HB3
  cases k
  all_goals
    go_wp2
    go_ret
    exact ⟨rfl, HB4.out.1⟩
theorem law_turnSegment (a b c d : Int) (w : World) (wa : (Lit.int .i64 a).wf = true) (wb : (Lit.int .i64 b).wf = true) (wc : (Lit.int .i64 c).wf = true) (wd : (Lit.int .i64 d).wf = true) :
    Calls Try.prog 8 #[SegV a b c d] w fun e w' => e = .returned (.bool true) ∧ Below w.heap.size w w' := by
  clear wa wb wc wd
  have HB := Lib.hid (Vars.of1 w (SegC a b c d) 38)
  go_enter Try.func8, Try.ntmps8
  obtain ⟨k0, k1, k2, k3⟩ := HB.out.c40
  go_wp2_with fail
  refine (toSegment_any _ _ _ _ _).mono ?_
  rintro e w1 ⟨rfl, hb1⟩
  have HB1 := Lib.hid (HB.out.next hb1)
  clear hb1 HB k0 k1 k2 k3
  go_wp2_with fail
  refine (sTurn_any _ _ _ _ _).mono ?_
  rintro e w2 ⟨rfl, hb2⟩
  have HB2 := Lib.hid ((HB1.out.next hb2).al (.cells (SegC c d a b) 27))
  have HQ := Lib.hid (Vars.of1 w2 (SegC c d a b) 27)
  clear hb2 HB1
  obtain ⟨k0, k1, k2, k3⟩ := HB2.out.c40
  go_wp2_with fail
  refine (toSegment_any _ _ _ _ _).mono ?_
  rintro e w3 ⟨rfl, hb3⟩
  have HB3 := Lib.hid (HB2.out.next hb3)
  have HQ3 := Lib.hid (HQ.out.next hb3)
  clear hb3 HB2 HQ k0 k1 k2 k3
  go_wp2_with fail
  refine (turn_any _ _ _ _ _).mono ?_
  rintro e w4 ⟨rfl, hb4⟩
  have HB4 := Lib.hid ((HB3.out.next hb4).al (.cells (SegC c d a b) 27))
  have HQ4 := Lib.hid ((HQ3.out.next hb4).al (.cells (SegC c d a b) 27))
  clear hb4 HB3 HQ3
  obtain ⟨j0, j1, j2, j3⟩ := HQ4.out.c40
  go_wp2_with fail
  refine (eqSegment_yes _ _ _ _ _).mono ?_
  rintro e w5 ⟨rfl, hb5⟩
  have HB5 := Lib.hid (HB4.out.next hb5)
  clear hb5 HB4
  go_wp2
  go_ret
  exact ⟨rfl, HB5.out.1⟩
set_option maxHeartbeats 2000000 in
theorem law_isOn (a b c d x y : Int) (w : World) (wa : (Lit.int .i64 a).wf = true) (wb : (Lit.int .i64 b).wf = true) (wc : (Lit.int .i64 c).wf = true) (wd : (Lit.int .i64 d).wf = true) (wx : (Lit.int .i64 x).wf = true) (wy : (Lit.int .i64 y).wf = true) :
    Calls Try.prog 5 #[SegV a b c d, PtV x y] w fun e w' => e = .returned (.bool true) ∧ Below w.heap.size w w' := by
  clear wa wb wc wd wx wy
  have HB := Lib.hid (Vars.of2 w (SegC a b c d) (PtC x y) 38 36)
  obtain ⟨k, hk⟩ : ∃ k, onV a b c d x y = k := ⟨_, rfl⟩
  have HK := Lib.hid hk
  clear hk
  go_enter Try.func5, Try.ntmps5
  obtain ⟨k0, k1, k2, k3, k4, k5⟩ := HB.out.c42p
  go_wp2_with fail
  go_region_held3 (fun w' => w'.cell? ⟨w.heap.size, 0, none⟩ = some (.int .i64 a) ∧ w'.cell? ⟨w.heap.size, 1, none⟩ = some (.int .i64 b) ∧ w'.cell? ⟨w.heap.size, 2, none⟩ = some (.int .i64 c) ∧ w'.cell? ⟨w.heap.size, 3, none⟩ = some (.int .i64 d) ∧ w'.cell? ⟨w.heap.size + 1, 0, none⟩ = some (.int .i64 x) ∧ w'.cell? ⟨w.heap.size + 1, 1, none⟩ = some (.int .i64 y)) (first | with_reducible exact ⟨k0, k1, k2, k3, k4, k5⟩ | with_reducible exact HB9.out.c42p | with_reducible exact HB.out.drew.c42p) (first
    | (go_at_call 19; refine (toSegment_any _ _ _ _ _).mono ?_; rintro e w9 ⟨rfl, hb9⟩; have HB9 := Lib.hid (Vars.next (by first | exact HB9.out | exact HB.out.drew) hb9))
    | (go_at_call 21; refine (toPoint_any _ _ _).mono ?_; rintro e w9 ⟨rfl, hb9⟩; have HB9 := Lib.hid (Vars.next (by first | exact HB9.out | exact HB.out.drew) hb9))
    | (go_at_call 20; refine (sIsOn_is _ _ _ _ _ _ _ _ HK.out).mono ?_; rintro e w9 ⟨rfl, hb9⟩; have HB9 := Lib.hid (Vars.next (by first | exact HB9.out | exact HB.out.drew) hb9)) | fail)
  all_goals
    have HC := HB9
    obtain ⟨k0, k1, k2, k3, k4, k5⟩ := HC.out.c42p
    go_wp2_with fail
    go_region_held3 (fun w' => w'.cell? ⟨w.heap.size, 0, none⟩ = some (.int .i64 a) ∧ w'.cell? ⟨w.heap.size, 1, none⟩ = some (.int .i64 b) ∧ w'.cell? ⟨w.heap.size, 2, none⟩ = some (.int .i64 c) ∧ w'.cell? ⟨w.heap.size, 3, none⟩ = some (.int .i64 d) ∧ w'.cell? ⟨w.heap.size + 1, 0, none⟩ = some (.int .i64 x) ∧ w'.cell? ⟨w.heap.size + 1, 1, none⟩ = some (.int .i64 y)) (first | with_reducible exact ⟨k0, k1, k2, k3, k4, k5⟩ | with_reducible exact HB8.out.c42p | with_reducible exact HC.out.drew.c42p) (first
      | (go_at_call 19; refine (toSegment_any _ _ _ _ _).mono ?_; rintro e w8 ⟨rfl, hb8⟩; have HB8 := Lib.hid (Vars.next (by first | exact HB8.out | exact HC.out.drew) hb8))
      | (go_at_call 21; refine (toPoint_any _ _ _).mono ?_; rintro e w8 ⟨rfl, hb8⟩; have HB8 := Lib.hid (Vars.next (by first | exact HB8.out | exact HC.out.drew) hb8))
      | (go_at_call 15; refine (isOn_any _ _ _ _ _ _ _).mono ?_; rw [HK.out]; rintro e w8 ⟨rfl, hb8⟩; have HB8 := Lib.hid (Vars.next (by first | exact HB8.out | exact HC.out.drew) hb8)) | fail)
    all_goals
      cases k
      all_goals
        go_wp2
        go_ret
        exact ⟨rfl, HB8.out.1⟩
set_option maxHeartbeats 2000000 in
theorem law_isBetween (a b c d x y : Int) (w : World) (wa : (Lit.int .i64 a).wf = true) (wb : (Lit.int .i64 b).wf = true) (wc : (Lit.int .i64 c).wf = true) (wd : (Lit.int .i64 d).wf = true) (wx : (Lit.int .i64 x).wf = true) (wy : (Lit.int .i64 y).wf = true) :
    Calls Try.prog 7 #[SegV a b c d, PtV x y] w fun e w' => e = .returned (.bool true) ∧ Below w.heap.size w w' := by
  clear wa wb wc wd wx wy
  have HB := Lib.hid (Vars.of2 w (SegC a b c d) (PtC x y) 38 36)
  obtain ⟨k, hk⟩ : ∃ k, betV a b c d x y = k := ⟨_, rfl⟩
  have HK := Lib.hid hk
  clear hk
  go_enter Try.func7, Try.ntmps7
  obtain ⟨k0, k1, k2, k3, k4, k5⟩ := HB.out.c42p
  go_wp2_with fail
  go_region_held3 (fun w' => w'.cell? ⟨w.heap.size, 0, none⟩ = some (.int .i64 a) ∧ w'.cell? ⟨w.heap.size, 1, none⟩ = some (.int .i64 b) ∧ w'.cell? ⟨w.heap.size, 2, none⟩ = some (.int .i64 c) ∧ w'.cell? ⟨w.heap.size, 3, none⟩ = some (.int .i64 d) ∧ w'.cell? ⟨w.heap.size + 1, 0, none⟩ = some (.int .i64 x) ∧ w'.cell? ⟨w.heap.size + 1, 1, none⟩ = some (.int .i64 y)) (first | with_reducible exact ⟨k0, k1, k2, k3, k4, k5⟩ | with_reducible exact HB9.out.c42p | with_reducible exact HB.out.drew.c42p) (first
    | (go_at_call 19; refine (toSegment_any _ _ _ _ _).mono ?_; rintro e w9 ⟨rfl, hb9⟩; have HB9 := Lib.hid (Vars.next (by first | exact HB9.out | exact HB.out.drew) hb9))
    | (go_at_call 21; refine (toPoint_any _ _ _).mono ?_; rintro e w9 ⟨rfl, hb9⟩; have HB9 := Lib.hid (Vars.next (by first | exact HB9.out | exact HB.out.drew) hb9))
    | (go_at_call 22; refine (sIsBetween_is _ _ _ _ _ _ _ _ HK.out).mono ?_; rintro e w9 ⟨rfl, hb9⟩; have HB9 := Lib.hid (Vars.next (by first | exact HB9.out | exact HB.out.drew) hb9)) | fail)
  all_goals
    have HC := HB9
    obtain ⟨k0, k1, k2, k3, k4, k5⟩ := HC.out.c42p
    go_wp2_with fail
    go_region_held3 (fun w' => w'.cell? ⟨w.heap.size, 0, none⟩ = some (.int .i64 a) ∧ w'.cell? ⟨w.heap.size, 1, none⟩ = some (.int .i64 b) ∧ w'.cell? ⟨w.heap.size, 2, none⟩ = some (.int .i64 c) ∧ w'.cell? ⟨w.heap.size, 3, none⟩ = some (.int .i64 d) ∧ w'.cell? ⟨w.heap.size + 1, 0, none⟩ = some (.int .i64 x) ∧ w'.cell? ⟨w.heap.size + 1, 1, none⟩ = some (.int .i64 y)) (first | with_reducible exact ⟨k0, k1, k2, k3, k4, k5⟩ | with_reducible exact HB8.out.c42p | with_reducible exact HC.out.drew.c42p) (first
      | (go_at_call 19; refine (toSegment_any _ _ _ _ _).mono ?_; rintro e w8 ⟨rfl, hb8⟩; have HB8 := Lib.hid (Vars.next (by first | exact HB8.out | exact HC.out.drew) hb8))
      | (go_at_call 21; refine (toPoint_any _ _ _).mono ?_; rintro e w8 ⟨rfl, hb8⟩; have HB8 := Lib.hid (Vars.next (by first | exact HB8.out | exact HC.out.drew) hb8))
      | (go_at_call 16; refine (isBetween_any _ _ _ _ _ _ _).mono ?_; rw [HK.out]; rintro e w8 ⟨rfl, hb8⟩; have HB8 := Lib.hid (Vars.next (by first | exact HB8.out | exact HC.out.drew) hb8)) | fail)
    all_goals
      cases k
      all_goals
        go_wp2
        go_ret
        exact ⟨rfl, HB8.out.1⟩
end Go.Proofs.Ytjgkjeingjfabaa
