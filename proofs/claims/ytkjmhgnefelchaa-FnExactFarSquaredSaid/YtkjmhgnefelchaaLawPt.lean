/- The exact laws of chapter 4: their walks. -/
import Derived.Test.YtkjmhgnefelchaaPoint4
namespace Go.Proofs.Ytkjmhgnefelchaa
open Go.ChangeShapes Go.WideShapes Go.ChangeAt Go.RowKit
set_option linter.unusedVariables false

theorem law_isPoint (x y : Int) (w : World) (wx : (Lit.int .i64 x).wf = true) (wy : (Lit.int .i64 y).wf = true) :
    Calls Try.prog 4 #[PtV x y] w fun e w' => e = .returned (.bool true) ∧ Below w.heap.size w w' := by
  go_enter Try.func4, Try.ntmps4
  go_wp2_with fail
  refine (toPoint_any x y _).mono ?_
  rintro e w1 ⟨rfl, hb1⟩
  have HB := Lib.hid ((Boxes.of1 w 37).next hb1)
  go_wp2_with fail
  refine (sIsPoint_any x y _).mono ?_
  rintro e w2 ⟨rfl, hb2⟩
  have HB2 := Lib.hid (HB.out.next hb2)
  clear hb1 hb2 HB
  obtain ⟨k0, k1⟩ := HB2.out.c1
  go_wp2_with fail
  refine (toPoint_any x y _).mono ?_
  rintro e w3 ⟨rfl, hb3⟩
  have HB3 := Lib.hid (HB2.out.next hb3)
  clear hb3 HB2 k0 k1
  go_wp2_with fail
  refine (isPoint_any x y _).mono ?_
  rintro e w4 ⟨rfl, hb4⟩
  have HB4 := Lib.hid (HB3.out.next hb4)
  clear hb4 HB3
  cases h : isP x y
  all_goals
    go_wp2
    go_ret
    exact ⟨rfl, HB4.out.1⟩
theorem law_movePoint (x y p q : Int) (w : World) (wx : (Lit.int .i64 x).wf = true) (wy : (Lit.int .i64 y).wf = true) (wp : (Lit.int .i64 p).wf = true) (wq : (Lit.int .i64 q).wf = true) :
    Calls Try.prog 9 #[PtV x y, .int .i64 p, .int .i64 q] w fun e w' => e = .returned (.bool true) ∧ Below w.heap.size w w' := by
  go_enter Try.func9, Try.ntmps9
  go_wp2_with fail
  refine (toPoint_any x y _).mono ?_
  rintro e w1 ⟨rfl, hb1⟩
  have HB := Lib.hid ((Boxes.of1 w 37).next hb1)
  clear hb1
  go_wp2_with fail
  refine (sMovePoint_any x y p q _).mono ?_
  obtain ⟨r, hr⟩ : ∃ r, movB x y p q = r := ⟨_, rfl⟩
  obtain ⟨u, hu⟩ : ∃ u, movX x y p q = u := ⟨_, rfl⟩
  obtain ⟨v, hv⟩ : ∃ v, movY x y p q = v := ⟨_, rfl⟩
  rw [hr, hu, hv]
  rintro e w2 ⟨rfl, hb2⟩
  have HR := Lib.hid hr; have HU := Lib.hid hu; have HV := Lib.hid hv
  clear hr hu hv
  have HB2 := Lib.hid (HB.out.next hb2)
  clear hb2 HB
  obtain ⟨k0, k1⟩ := (HB2.out.al (.cells #[.int .i64 u, .int .i64 v] 25)).c1
  go_wp2_with fail
  refine (toPoint_any x y _).mono ?_
  rintro e w3 ⟨rfl, hb3⟩
  have HX := Lib.hid ((Boxes.of1 w2 25).next hb3)
  have HB3 := Lib.hid ((HB2.out.al _).next hb3)
  clear hb3 HB2 k0 k1
  go_wp2_with fail
  refine (movePoint_any x y p q _).mono ?_
  rw [HR.out, HU.out, HV.out]
  rintro e w4 ⟨rfl, hb4⟩
  have HX4 := Lib.hid (HX.out.next hb4)
  have HB4 := Lib.hid (HB3.out.next hb4)
  clear hb4 HB3 HX
  obtain ⟨k0, k1⟩ := (HX4.out.al (.cells #[.int .i64 u, .int .i64 v] 25)).c1
  go_wp2_with fail
  refine (eqPoint_any u v u v _).mono ?_
  rintro e w5 ⟨rfl, hb5⟩
  have HB5 := Lib.hid ((HB4.out.al _).next hb5)
  clear hb5 HB4
  cases r
  all_goals
    go_wp2
    go_ret
    exact ⟨rfl, HB5.out.1⟩
set_option maxHeartbeats 1000000 in
theorem law_far (a b c d : Int) (w : World) (wa : (Lit.int .i64 a).wf = true) (wb : (Lit.int .i64 b).wf = true) (wc : (Lit.int .i64 c).wf = true) (wd : (Lit.int .i64 d).wf = true) :
    Calls Try.prog 6 #[PtV a b, PtV c d] w fun e w' => e = .returned (.bool true) ∧ Below w.heap.size w w' := by
  go_enter Try.func6, Try.ntmps6
  clear wa wb wc wd
  have HB := Lib.hid (Boxes.of2 (a := a) (b := b) (c := c) (d := d) w 37)
  obtain ⟨k0, k1, k2, k3⟩ := HB.out.c2
  go_wp2_with fail
  go_region_held3 (fun w' => w'.cell? ⟨w.heap.size, 0, none⟩ = some (.int .i64 a) ∧ w'.cell? ⟨w.heap.size, 1, none⟩ = some (.int .i64 b) ∧ w'.cell? ⟨w.heap.size + 1, 0, none⟩ = some (.int .i64 c) ∧ w'.cell? ⟨w.heap.size + 1, 1, none⟩ = some (.int .i64 d)) (first | exact ⟨k0, k1, k2, k3⟩ | exact HB9.out.c2 | exact HB.out.drew.c2) (first
    | (go_at_call 20; refine (toPoint_any _ _ _).mono ?_; rintro e w9 ⟨rfl, hb9⟩; have HB9 := Lib.hid (Boxes.next (by first | exact HB9.out | exact HB9.out.drew | exact HB.out | exact HB.out.drew) hb9))
    | (go_at_call 23; refine (sFarSquared_any _ _ _ _ _).mono ?_; rintro e w9 ⟨rfl, hb9⟩; have HB9 := Lib.hid (Boxes.next (by first | exact HB9.out | exact HB9.out.drew | exact HB.out | exact HB.out.drew) hb9)) | fail)
  all_goals
    have HC := HB9
    obtain ⟨r, hr⟩ : ∃ r : Int, farV a b c d = r := ⟨_, rfl⟩
    rw [hr]
    have HR := Lib.hid hr
    clear hr
    obtain ⟨k0, k1, k2, k3⟩ := HC.out.c2
    go_wp2_with fail
    go_region_held3 (fun w' => w'.cell? ⟨w.heap.size, 0, none⟩ = some (.int .i64 a) ∧ w'.cell? ⟨w.heap.size, 1, none⟩ = some (.int .i64 b) ∧ w'.cell? ⟨w.heap.size + 1, 0, none⟩ = some (.int .i64 c) ∧ w'.cell? ⟨w.heap.size + 1, 1, none⟩ = some (.int .i64 d)) (first | exact ⟨k0, k1, k2, k3⟩ | exact HB8.out.c2 | exact HC.out.drew.c2) (first
      | (go_at_call 20; refine (toPoint_any _ _ _).mono ?_; rintro e w8 ⟨rfl, hb8⟩; have HB8 := Lib.hid (Boxes.next (by first | exact HB8.out | exact HB8.out.drew | exact HC.out | exact HC.out.drew) hb8))
      | (go_at_call 14; refine (farSquared_any _ _ _ _ _).mono ?_; rw [HR.out]; rintro e w8 ⟨rfl, hb8⟩; have HB8 := Lib.hid (Boxes.next (by first | exact HB8.out | exact HB8.out.drew | exact HC.out | exact HC.out.drew) hb8)) | fail)
    all_goals
      go_wp2
      go_ret
      exact ⟨rfl, HB8.out.1⟩
set_option maxHeartbeats 1000000 in
theorem law_steps (a b c d : Int) (w : World) (wa : (Lit.int .i64 a).wf = true) (wb : (Lit.int .i64 b).wf = true) (wc : (Lit.int .i64 c).wf = true) (wd : (Lit.int .i64 d).wf = true) :
    Calls Try.prog 7 #[PtV a b, PtV c d] w fun e w' => e = .returned (.bool true) ∧ Below w.heap.size w w' := by
  go_enter Try.func7, Try.ntmps7
  clear wa wb wc wd
  have HB := Lib.hid (Boxes.of2 (a := a) (b := b) (c := c) (d := d) w 37)
  obtain ⟨k0, k1, k2, k3⟩ := HB.out.c2
  go_wp2_with fail
  go_region_held3 (fun w' => w'.cell? ⟨w.heap.size, 0, none⟩ = some (.int .i64 a) ∧ w'.cell? ⟨w.heap.size, 1, none⟩ = some (.int .i64 b) ∧ w'.cell? ⟨w.heap.size + 1, 0, none⟩ = some (.int .i64 c) ∧ w'.cell? ⟨w.heap.size + 1, 1, none⟩ = some (.int .i64 d)) (first | exact ⟨k0, k1, k2, k3⟩ | exact HB9.out.c2 | exact HB.out.drew.c2) (first
    | (go_at_call 20; refine (toPoint_any _ _ _).mono ?_; rintro e w9 ⟨rfl, hb9⟩; have HB9 := Lib.hid (Boxes.next (by first | exact HB9.out | exact HB9.out.drew | exact HB.out | exact HB.out.drew) hb9))
    | (go_at_call 24; refine (sStepsBetween_any _ _ _ _ _).mono ?_; rintro e w9 ⟨rfl, hb9⟩; have HB9 := Lib.hid (Boxes.next (by first | exact HB9.out | exact HB9.out.drew | exact HB.out | exact HB.out.drew) hb9)) | fail)
  all_goals
    have HC := HB9
    obtain ⟨r, hr⟩ : ∃ r : Int, stepsV a b c d = r := ⟨_, rfl⟩
    rw [hr]
    have HR := Lib.hid hr
    clear hr
    obtain ⟨k0, k1, k2, k3⟩ := HC.out.c2
    go_wp2_with fail
    go_region_held3 (fun w' => w'.cell? ⟨w.heap.size, 0, none⟩ = some (.int .i64 a) ∧ w'.cell? ⟨w.heap.size, 1, none⟩ = some (.int .i64 b) ∧ w'.cell? ⟨w.heap.size + 1, 0, none⟩ = some (.int .i64 c) ∧ w'.cell? ⟨w.heap.size + 1, 1, none⟩ = some (.int .i64 d)) (first | exact ⟨k0, k1, k2, k3⟩ | exact HB8.out.c2 | exact HC.out.drew.c2) (first
      | (go_at_call 20; refine (toPoint_any _ _ _).mono ?_; rintro e w8 ⟨rfl, hb8⟩; have HB8 := Lib.hid (Boxes.next (by first | exact HB8.out | exact HB8.out.drew | exact HC.out | exact HC.out.drew) hb8))
      | (go_at_call 15; refine (stepsBetween_any _ _ _ _ _).mono ?_; rw [HR.out]; rintro e w8 ⟨rfl, hb8⟩; have HB8 := Lib.hid (Boxes.next (by first | exact HB8.out | exact HB8.out.drew | exact HC.out | exact HC.out.drew) hb8)) | fail)
    all_goals
      go_wp2
      go_ret
      exact ⟨rfl, HB8.out.1⟩
set_option maxHeartbeats 1000000 in
theorem law_before (a b c d : Int) (w : World) (wa : (Lit.int .i64 a).wf = true) (wb : (Lit.int .i64 b).wf = true) (wc : (Lit.int .i64 c).wf = true) (wd : (Lit.int .i64 d).wf = true) :
    Calls Try.prog 8 #[PtV a b, PtV c d] w fun e w' => e = .returned (.bool true) ∧ Below w.heap.size w w' := by
  go_enter Try.func8, Try.ntmps8
  clear wa wb wc wd
  have HB := Lib.hid (Boxes.of2 (a := a) (b := b) (c := c) (d := d) w 37)
  obtain ⟨k0, k1, k2, k3⟩ := HB.out.c2
  go_wp2_with fail
  go_region_held3 (fun w' => w'.cell? ⟨w.heap.size, 0, none⟩ = some (.int .i64 a) ∧ w'.cell? ⟨w.heap.size, 1, none⟩ = some (.int .i64 b) ∧ w'.cell? ⟨w.heap.size + 1, 0, none⟩ = some (.int .i64 c) ∧ w'.cell? ⟨w.heap.size + 1, 1, none⟩ = some (.int .i64 d)) (first | exact ⟨k0, k1, k2, k3⟩ | exact HB9.out.c2 | exact HB.out.drew.c2) (first
    | (go_at_call 20; refine (toPoint_any _ _ _).mono ?_; rintro e w9 ⟨rfl, hb9⟩; have HB9 := Lib.hid (Boxes.next (by first | exact HB9.out | exact HB9.out.drew | exact HB.out | exact HB.out.drew) hb9))
    | (go_at_call 25; refine (sBefore_any _ _ _ _ _).mono ?_; rintro e w9 ⟨rfl, hb9⟩; have HB9 := Lib.hid (Boxes.next (by first | exact HB9.out | exact HB9.out.drew | exact HB.out | exact HB.out.drew) hb9)) | fail)
  all_goals
    have HC := HB9
    obtain ⟨r, hr⟩ : ∃ r : Bool, befV a b c d = r := ⟨_, rfl⟩
    rw [hr]
    have HR := Lib.hid hr
    clear hr
    obtain ⟨k0, k1, k2, k3⟩ := HC.out.c2
    go_wp2_with fail
    go_region_held3 (fun w' => w'.cell? ⟨w.heap.size, 0, none⟩ = some (.int .i64 a) ∧ w'.cell? ⟨w.heap.size, 1, none⟩ = some (.int .i64 b) ∧ w'.cell? ⟨w.heap.size + 1, 0, none⟩ = some (.int .i64 c) ∧ w'.cell? ⟨w.heap.size + 1, 1, none⟩ = some (.int .i64 d)) (first | exact ⟨k0, k1, k2, k3⟩ | exact HB8.out.c2 | exact HC.out.drew.c2) (first
      | (go_at_call 20; refine (toPoint_any _ _ _).mono ?_; rintro e w8 ⟨rfl, hb8⟩; have HB8 := Lib.hid (Boxes.next (by first | exact HB8.out | exact HB8.out.drew | exact HC.out | exact HC.out.drew) hb8))
      | (go_at_call 18; refine (before_any _ _ _ _ _).mono ?_; rw [HR.out]; rintro e w8 ⟨rfl, hb8⟩; have HB8 := Lib.hid (Boxes.next (by first | exact HB8.out | exact HB8.out.drew | exact HC.out | exact HC.out.drew) hb8)) | fail)
    all_goals
      go_wp2
      go_ret
      exact ⟨rfl, HB8.out.1⟩
set_option maxHeartbeats 4000000 in
theorem law_sideOf (a b c d x y : Int) (w : World) (wa : (Lit.int .i64 a).wf = true) (wb : (Lit.int .i64 b).wf = true) (wc : (Lit.int .i64 c).wf = true) (wd : (Lit.int .i64 d).wf = true) (wx : (Lit.int .i64 x).wf = true) (wy : (Lit.int .i64 y).wf = true) :
    Calls Try.prog 5 #[PtV a b, PtV c d, PtV x y] w fun e w' => e = .returned (.bool true) ∧ Below w.heap.size w w' := by
  go_enter Try.func5, Try.ntmps5
  clear wa wb wc wd wx wy
  have HB := Lib.hid (Boxes.of3 (a := a) (b := b) (c := c) (d := d) (x := x) (y := y) w 37)
  obtain ⟨k0, k1, k2, k3, k4, k5⟩ := HB.out.c3
  go_wp2_with fail
  go_region_held3 (fun w' => w'.cell? ⟨w.heap.size, 0, none⟩ = some (.int .i64 a) ∧ w'.cell? ⟨w.heap.size, 1, none⟩ = some (.int .i64 b) ∧ w'.cell? ⟨w.heap.size + 1, 0, none⟩ = some (.int .i64 c) ∧ w'.cell? ⟨w.heap.size + 1, 1, none⟩ = some (.int .i64 d) ∧ w'.cell? ⟨w.heap.size + 1 + 1, 0, none⟩ = some (.int .i64 x) ∧ w'.cell? ⟨w.heap.size + 1 + 1, 1, none⟩ = some (.int .i64 y)) (first | exact ⟨k0, k1, k2, k3, k4, k5⟩ | exact HB9.out.c3 | exact HB.out.drew.c3) (first
    | (go_at_call 20; refine (toPoint_any _ _ _).mono ?_; rintro e w9 ⟨rfl, hb9⟩; have HB9 := Lib.hid (Boxes.next (by first | exact HB9.out | exact HB9.out.drew | exact HB.out | exact HB.out.drew) hb9))
    | (go_at_call 22; refine (sSideOf_any _ _ _ _ _ _ _).mono ?_; rintro e w9 ⟨rfl, hb9⟩; have HB9 := Lib.hid (Boxes.next (by first | exact HB9.out | exact HB9.out.drew | exact HB.out | exact HB.out.drew) hb9)) | fail)
  all_goals
    have HC := HB9
    obtain ⟨r, hr⟩ : ∃ r : Int, sideV a b c d x y = r := ⟨_, rfl⟩
    rw [hr]
    have HR := Lib.hid hr
    clear hr
    obtain ⟨k0, k1, k2, k3, k4, k5⟩ := HC.out.c3
    go_wp2_with fail
    go_region_held3 (fun w' => w'.cell? ⟨w.heap.size, 0, none⟩ = some (.int .i64 a) ∧ w'.cell? ⟨w.heap.size, 1, none⟩ = some (.int .i64 b) ∧ w'.cell? ⟨w.heap.size + 1, 0, none⟩ = some (.int .i64 c) ∧ w'.cell? ⟨w.heap.size + 1, 1, none⟩ = some (.int .i64 d) ∧ w'.cell? ⟨w.heap.size + 1 + 1, 0, none⟩ = some (.int .i64 x) ∧ w'.cell? ⟨w.heap.size + 1 + 1, 1, none⟩ = some (.int .i64 y)) (first | exact ⟨k0, k1, k2, k3, k4, k5⟩ | exact HB8.out.c3 | exact HC.out.drew.c3) (first
      | (go_at_call 20; refine (toPoint_any _ _ _).mono ?_; rintro e w8 ⟨rfl, hb8⟩; have HB8 := Lib.hid (Boxes.next (by first | exact HB8.out | exact HB8.out.drew | exact HC.out | exact HC.out.drew) hb8))
      | (go_at_call 12; refine (sideOf_any _ _ _ _ _ _ _).mono ?_; rw [HR.out]; rintro e w8 ⟨rfl, hb8⟩; have HB8 := Lib.hid (Boxes.next (by first | exact HB8.out | exact HB8.out.drew | exact HC.out | exact HC.out.drew) hb8)) | fail)
    all_goals
      go_wp2
      go_ret
      exact ⟨rfl, HB8.out.1⟩
end Go.Proofs.Ytkjmhgnefelchaa
