/- The exact laws of chapter 5: their walks. -/
import Derived.Test.YtbnjaaegbmhopaaSegOn
import Derived.Test.YtbnjaaegbmhopaaLawSegTo
namespace Go.Proofs.Ytbnjaaegbmhopaa
open Go.ChangeShapes Go.WideShapes Go.ChangeAt Go.RowKit
set_option linter.unusedVariables false

set_option maxHeartbeats 2000000 in
theorem law_isOn (a b c d x y : Int) (w : World) (wa : (Lit.int .i64 a).wf = true) (wb : (Lit.int .i64 b).wf = true) (wc : (Lit.int .i64 c).wf = true) (wd : (Lit.int .i64 d).wf = true) (wx : (Lit.int .i64 x).wf = true) (wy : (Lit.int .i64 y).wf = true) :
    Calls Try.prog 8 #[SegV a b c d, PtV x y] w fun e w' => e = .returned (.bool true) ∧ Below w.heap.size w w' := by
  clear wa wb wc wd wx wy
  have HB := Lib.hid (Vars.of2 w (SegC a b c d) (PtC x y) 75 71)
  obtain ⟨k, hk⟩ : ∃ k, onV a b c d x y = k := ⟨_, rfl⟩
  have HK := Lib.hid hk
  clear hk
  go_enter Try.func8, Try.ntmps8
  obtain ⟨k0, k1, k2, k3, k4, k5⟩ := HB.out.c42p
  go_wp2_with fail
  go_region_held3 (fun w' => w'.cell? ⟨w.heap.size, 0, none⟩ = some (.int .i64 a) ∧ w'.cell? ⟨w.heap.size, 1, none⟩ = some (.int .i64 b) ∧ w'.cell? ⟨w.heap.size, 2, none⟩ = some (.int .i64 c) ∧ w'.cell? ⟨w.heap.size, 3, none⟩ = some (.int .i64 d) ∧ w'.cell? ⟨w.heap.size + 1, 0, none⟩ = some (.int .i64 x) ∧ w'.cell? ⟨w.heap.size + 1, 1, none⟩ = some (.int .i64 y)) (first | with_reducible exact ⟨k0, k1, k2, k3, k4, k5⟩ | with_reducible exact HB9.out.c42p | with_reducible exact HB.out.drew.c42p) (first
    | (go_at_call 52; refine (toSegment_any _ _ _ _ _).mono ?_; rintro e w9 ⟨rfl, hb9⟩; have HB9 := Lib.hid (Vars.next (by first | exact HB9.out | exact HB.out.drew) hb9))
    | (go_at_call 50; refine (toPoint_any _ _ _).mono ?_; rintro e w9 ⟨rfl, hb9⟩; have HB9 := Lib.hid (Vars.next (by first | exact HB9.out | exact HB.out.drew) hb9))
    | (go_at_call 51; refine (sIsOn_is _ _ _ _ _ _ _ _ HK.out).mono ?_; rintro e w9 ⟨rfl, hb9⟩; have HB9 := Lib.hid (Vars.next (by first | exact HB9.out | exact HB.out.drew) hb9)) | fail)
  all_goals
    have HC := HB9
    obtain ⟨k0, k1, k2, k3, k4, k5⟩ := HC.out.c42p
    go_wp2_with fail
    go_region_held3 (fun w' => w'.cell? ⟨w.heap.size, 0, none⟩ = some (.int .i64 a) ∧ w'.cell? ⟨w.heap.size, 1, none⟩ = some (.int .i64 b) ∧ w'.cell? ⟨w.heap.size, 2, none⟩ = some (.int .i64 c) ∧ w'.cell? ⟨w.heap.size, 3, none⟩ = some (.int .i64 d) ∧ w'.cell? ⟨w.heap.size + 1, 0, none⟩ = some (.int .i64 x) ∧ w'.cell? ⟨w.heap.size + 1, 1, none⟩ = some (.int .i64 y)) (first | with_reducible exact ⟨k0, k1, k2, k3, k4, k5⟩ | with_reducible exact HB8.out.c42p | with_reducible exact HC.out.drew.c42p) (first
      | (go_at_call 52; refine (toSegment_any _ _ _ _ _).mono ?_; rintro e w8 ⟨rfl, hb8⟩; have HB8 := Lib.hid (Vars.next (by first | exact HB8.out | exact HC.out.drew) hb8))
      | (go_at_call 50; refine (toPoint_any _ _ _).mono ?_; rintro e w8 ⟨rfl, hb8⟩; have HB8 := Lib.hid (Vars.next (by first | exact HB8.out | exact HC.out.drew) hb8))
      | (go_at_call 28; refine (isOn_any _ _ _ _ _ _ _).mono ?_; rw [HK.out]; rintro e w8 ⟨rfl, hb8⟩; have HB8 := Lib.hid (Vars.next (by first | exact HB8.out | exact HC.out.drew) hb8)) | fail)
    all_goals
      cases k
      all_goals
        go_wp2
        go_ret
        exact ⟨rfl, HB8.out.1⟩
set_option maxHeartbeats 2000000 in
theorem law_isBetween (a b c d x y : Int) (w : World) (wa : (Lit.int .i64 a).wf = true) (wb : (Lit.int .i64 b).wf = true) (wc : (Lit.int .i64 c).wf = true) (wd : (Lit.int .i64 d).wf = true) (wx : (Lit.int .i64 x).wf = true) (wy : (Lit.int .i64 y).wf = true) :
    Calls Try.prog 10 #[SegV a b c d, PtV x y] w fun e w' => e = .returned (.bool true) ∧ Below w.heap.size w w' := by
  clear wa wb wc wd wx wy
  have HB := Lib.hid (Vars.of2 w (SegC a b c d) (PtC x y) 75 71)
  obtain ⟨k, hk⟩ : ∃ k, betV a b c d x y = k := ⟨_, rfl⟩
  have HK := Lib.hid hk
  clear hk
  go_enter Try.func10, Try.ntmps10
  obtain ⟨k0, k1, k2, k3, k4, k5⟩ := HB.out.c42p
  go_wp2_with fail
  go_region_held3 (fun w' => w'.cell? ⟨w.heap.size, 0, none⟩ = some (.int .i64 a) ∧ w'.cell? ⟨w.heap.size, 1, none⟩ = some (.int .i64 b) ∧ w'.cell? ⟨w.heap.size, 2, none⟩ = some (.int .i64 c) ∧ w'.cell? ⟨w.heap.size, 3, none⟩ = some (.int .i64 d) ∧ w'.cell? ⟨w.heap.size + 1, 0, none⟩ = some (.int .i64 x) ∧ w'.cell? ⟨w.heap.size + 1, 1, none⟩ = some (.int .i64 y)) (first | with_reducible exact ⟨k0, k1, k2, k3, k4, k5⟩ | with_reducible exact HB9.out.c42p | with_reducible exact HB.out.drew.c42p) (first
    | (go_at_call 52; refine (toSegment_any _ _ _ _ _).mono ?_; rintro e w9 ⟨rfl, hb9⟩; have HB9 := Lib.hid (Vars.next (by first | exact HB9.out | exact HB.out.drew) hb9))
    | (go_at_call 50; refine (toPoint_any _ _ _).mono ?_; rintro e w9 ⟨rfl, hb9⟩; have HB9 := Lib.hid (Vars.next (by first | exact HB9.out | exact HB.out.drew) hb9))
    | (go_at_call 53; refine (sIsBetween_is _ _ _ _ _ _ _ _ HK.out).mono ?_; rintro e w9 ⟨rfl, hb9⟩; have HB9 := Lib.hid (Vars.next (by first | exact HB9.out | exact HB.out.drew) hb9)) | fail)
  all_goals
    have HC := HB9
    obtain ⟨k0, k1, k2, k3, k4, k5⟩ := HC.out.c42p
    go_wp2_with fail
    go_region_held3 (fun w' => w'.cell? ⟨w.heap.size, 0, none⟩ = some (.int .i64 a) ∧ w'.cell? ⟨w.heap.size, 1, none⟩ = some (.int .i64 b) ∧ w'.cell? ⟨w.heap.size, 2, none⟩ = some (.int .i64 c) ∧ w'.cell? ⟨w.heap.size, 3, none⟩ = some (.int .i64 d) ∧ w'.cell? ⟨w.heap.size + 1, 0, none⟩ = some (.int .i64 x) ∧ w'.cell? ⟨w.heap.size + 1, 1, none⟩ = some (.int .i64 y)) (first | with_reducible exact ⟨k0, k1, k2, k3, k4, k5⟩ | with_reducible exact HB8.out.c42p | with_reducible exact HC.out.drew.c42p) (first
      | (go_at_call 52; refine (toSegment_any _ _ _ _ _).mono ?_; rintro e w8 ⟨rfl, hb8⟩; have HB8 := Lib.hid (Vars.next (by first | exact HB8.out | exact HC.out.drew) hb8))
      | (go_at_call 50; refine (toPoint_any _ _ _).mono ?_; rintro e w8 ⟨rfl, hb8⟩; have HB8 := Lib.hid (Vars.next (by first | exact HB8.out | exact HC.out.drew) hb8))
      | (go_at_call 29; refine (isBetween_any _ _ _ _ _ _ _).mono ?_; rw [HK.out]; rintro e w8 ⟨rfl, hb8⟩; have HB8 := Lib.hid (Vars.next (by first | exact HB8.out | exact HC.out.drew) hb8)) | fail)
    all_goals
      cases k
      all_goals
        go_wp2
        go_ret
        exact ⟨rfl, HB8.out.1⟩
end Go.Proofs.Ytbnjaaegbmhopaa
