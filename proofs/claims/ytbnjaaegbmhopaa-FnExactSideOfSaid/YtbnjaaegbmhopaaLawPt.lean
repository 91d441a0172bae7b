/- The exact laws of chapter 4: their walks. -/
import Derived.Test.YtbnjaaegbmhopaaPoint4
namespace Go.Proofs.Ytbnjaaegbmhopaa
open Go.ChangeShapes Go.WideShapes Go.ChangeAt Go.RowKit
set_option linter.unusedVariables false

set_option maxHeartbeats 4000000 in
theorem law_sideOf (a b c d x y : Int) (w : World) (wa : (Lit.int .i64 a).wf = true) (wb : (Lit.int .i64 b).wf = true) (wc : (Lit.int .i64 c).wf = true) (wd : (Lit.int .i64 d).wf = true) (wx : (Lit.int .i64 x).wf = true) (wy : (Lit.int .i64 y).wf = true) :
    Calls Try.prog 7 #[PtV a b, PtV c d, PtV x y] w fun e w' => e = .returned (.bool true) ∧ Below w.heap.size w w' := by
  go_enter Try.func7, Try.ntmps7
  clear wa wb wc wd wx wy
  have HB := Lib.hid (Boxes.of3 (a := a) (b := b) (c := c) (d := d) (x := x) (y := y) w 71)
  obtain ⟨k0, k1, k2, k3, k4, k5⟩ := HB.out.c3
  go_wp2_with fail
  go_region_held3 (fun w' => w'.cell? ⟨w.heap.size, 0, none⟩ = some (.int .i64 a) ∧ w'.cell? ⟨w.heap.size, 1, none⟩ = some (.int .i64 b) ∧ w'.cell? ⟨w.heap.size + 1, 0, none⟩ = some (.int .i64 c) ∧ w'.cell? ⟨w.heap.size + 1, 1, none⟩ = some (.int .i64 d) ∧ w'.cell? ⟨w.heap.size + 1 + 1, 0, none⟩ = some (.int .i64 x) ∧ w'.cell? ⟨w.heap.size + 1 + 1, 1, none⟩ = some (.int .i64 y)) (first | exact ⟨k0, k1, k2, k3, k4, k5⟩ | exact HB9.out.c3 | exact HB.out.drew.c3) (first
    | (go_at_call 50; refine (toPoint_any _ _ _).mono ?_; rintro e w9 ⟨rfl, hb9⟩; have HB9 := Lib.hid (Boxes.next (by first | exact HB9.out | exact HB9.out.drew | exact HB.out | exact HB.out.drew) hb9))
    | (go_at_call 49; refine (sSideOf_any _ _ _ _ _ _ _).mono ?_; rintro e w9 ⟨rfl, hb9⟩; have HB9 := Lib.hid (Boxes.next (by first | exact HB9.out | exact HB9.out.drew | exact HB.out | exact HB.out.drew) hb9)) | fail)
  all_goals
    have HC := HB9
    obtain ⟨r, hr⟩ : ∃ r : Int, sideV a b c d x y = r := ⟨_, rfl⟩
    rw [hr]
    have HR := Lib.hid hr
    clear hr
    obtain ⟨k0, k1, k2, k3, k4, k5⟩ := HC.out.c3
    go_wp2_with fail
    go_region_held3 (fun w' => w'.cell? ⟨w.heap.size, 0, none⟩ = some (.int .i64 a) ∧ w'.cell? ⟨w.heap.size, 1, none⟩ = some (.int .i64 b) ∧ w'.cell? ⟨w.heap.size + 1, 0, none⟩ = some (.int .i64 c) ∧ w'.cell? ⟨w.heap.size + 1, 1, none⟩ = some (.int .i64 d) ∧ w'.cell? ⟨w.heap.size + 1 + 1, 0, none⟩ = some (.int .i64 x) ∧ w'.cell? ⟨w.heap.size + 1 + 1, 1, none⟩ = some (.int .i64 y)) (first | exact ⟨k0, k1, k2, k3, k4, k5⟩ | exact HB8.out.c3 | exact HC.out.drew.c3) (first
      | (go_at_call 50; refine (toPoint_any _ _ _).mono ?_; rintro e w8 ⟨rfl, hb8⟩; have HB8 := Lib.hid (Boxes.next (by first | exact HB8.out | exact HB8.out.drew | exact HC.out | exact HC.out.drew) hb8))
      | (go_at_call 16; refine (sideOf_any _ _ _ _ _ _ _).mono ?_; rw [HR.out]; rintro e w8 ⟨rfl, hb8⟩; have HB8 := Lib.hid (Boxes.next (by first | exact HB8.out | exact HB8.out.drew | exact HC.out | exact HC.out.drew) hb8)) | fail)
    all_goals
      go_wp2
      go_ret
      exact ⟨rfl, HB8.out.1⟩
end Go.Proofs.Ytbnjaaegbmhopaa
