/- The exact laws of boxes: their walks. -/
import Derived.Test.YtjnbdbgkecfkcabBoxS
import Derived.Test.YtjnbdbgkecfkcabBox3
import Derived.Test.YtjnbdbgkecfkcabBoxI
import Derived.Test.YtjnbdbgkecfkcabLawSegTo
namespace Go.Proofs.Ytjnbdbgkecfkcab
open Go.ChangeShapes Go.WideShapes Go.ChangeAt Go.RowKit
set_option linter.unusedVariables false

set_option maxHeartbeats 2000000 in
theorem law_FnExactBoxesOverlap (a b c d p q r s : Int) (w : World) (wa : (Lit.int .i64 a).wf = true) (wb : (Lit.int .i64 b).wf = true) (wc : (Lit.int .i64 c).wf = true) (wd : (Lit.int .i64 d).wf = true) (wp : (Lit.int .i64 p).wf = true) (wq : (Lit.int .i64 q).wf = true) (wr : (Lit.int .i64 r).wf = true) (ws : (Lit.int .i64 s).wf = true) :
    Calls Try.prog 3 #[SegV a b c d, SegV p q r s] w fun e w' => e = .returned (.bool true) ∧ Below w.heap.size w w' := by
  clear wa wb wc wd wp wq wr ws
  have HB := Lib.hid (Vars.of2 w (SegC a b c d) (SegC p q r s) 25 25)
  obtain ⟨k, hk⟩ : ∃ k, ovB a b c d p q r s = k := ⟨_, rfl⟩
  have HK := Lib.hid hk
  clear hk
  go_enter Try.func3, Try.ntmps3
  obtain ⟨k0, k1, k2, k3, k4, k5, k6, k7⟩ := HB.out.c44
  go_wp2_with fail
  go_region_held3 (fun w' => w'.cell? ⟨w.heap.size, 0, none⟩ = some (.int .i64 a) ∧ w'.cell? ⟨w.heap.size, 1, none⟩ = some (.int .i64 b) ∧ w'.cell? ⟨w.heap.size, 2, none⟩ = some (.int .i64 c) ∧ w'.cell? ⟨w.heap.size, 3, none⟩ = some (.int .i64 d) ∧ w'.cell? ⟨w.heap.size + 1, 0, none⟩ = some (.int .i64 p) ∧ w'.cell? ⟨w.heap.size + 1, 1, none⟩ = some (.int .i64 q) ∧ w'.cell? ⟨w.heap.size + 1, 2, none⟩ = some (.int .i64 r) ∧ w'.cell? ⟨w.heap.size + 1, 3, none⟩ = some (.int .i64 s)) (first | with_reducible exact ⟨k0, k1, k2, k3, k4, k5, k6, k7⟩ | with_reducible exact HB9.out.c44 | with_reducible exact HB.out.drew.c44) (first
    | (go_at_call 8; refine (toBox_any _ _ _ _ _).mono ?_; rintro e w9 ⟨rfl, hb9⟩; have HB9 := Lib.hid (Vars.next (by first | exact HB9.out | exact HB.out.drew) hb9))
    | (go_at_call 7; refine (sBoxesOverlap_is _ _ _ _ _ _ _ _ _ _ HK.out).mono ?_; rintro e w9 ⟨rfl, hb9⟩; have HB9 := Lib.hid (Vars.next (by first | exact HB9.out | exact HB.out.drew) hb9)) | fail)
  all_goals
    have HC := HB9
    obtain ⟨k0, k1, k2, k3, k4, k5, k6, k7⟩ := HC.out.c44
    go_wp2_with fail
    go_region_held3 (fun w' => w'.cell? ⟨w.heap.size, 0, none⟩ = some (.int .i64 a) ∧ w'.cell? ⟨w.heap.size, 1, none⟩ = some (.int .i64 b) ∧ w'.cell? ⟨w.heap.size, 2, none⟩ = some (.int .i64 c) ∧ w'.cell? ⟨w.heap.size, 3, none⟩ = some (.int .i64 d) ∧ w'.cell? ⟨w.heap.size + 1, 0, none⟩ = some (.int .i64 p) ∧ w'.cell? ⟨w.heap.size + 1, 1, none⟩ = some (.int .i64 q) ∧ w'.cell? ⟨w.heap.size + 1, 2, none⟩ = some (.int .i64 r) ∧ w'.cell? ⟨w.heap.size + 1, 3, none⟩ = some (.int .i64 s)) (first | with_reducible exact ⟨k0, k1, k2, k3, k4, k5, k6, k7⟩ | with_reducible exact HB8.out.c44 | with_reducible exact HC.out.drew.c44) (first
      | (go_at_call 8; refine (toBox_any _ _ _ _ _).mono ?_; rintro e w8 ⟨rfl, hb8⟩; have HB8 := Lib.hid (Vars.next (by first | exact HB8.out | exact HC.out.drew) hb8))
      | (go_at_call 9; refine (boxesOverlap_is _ _ _ _ _ _ _ _ _ _ HK.out).mono ?_; rintro e w8 ⟨rfl, hb8⟩; have HB8 := Lib.hid (Vars.next (by first | exact HB8.out | exact HC.out.drew) hb8)) | fail)
    all_goals
      cases k
      all_goals
        go_wp2
        go_ret
        exact ⟨rfl, HB8.out.1⟩
set_option maxHeartbeats 2000000 in
theorem law_FnExactInBox (a b c d x y : Int) (w : World) (wa : (Lit.int .i64 a).wf = true) (wb : (Lit.int .i64 b).wf = true) (wc : (Lit.int .i64 c).wf = true) (wd : (Lit.int .i64 d).wf = true) (wx : (Lit.int .i64 x).wf = true) (wy : (Lit.int .i64 y).wf = true) :
    Calls Try.prog 4 #[SegV a b c d, PtV x y] w fun e w' => e = .returned (.bool true) ∧ Below w.heap.size w w' := by
  clear wa wb wc wd wx wy
  have HB := Lib.hid (Vars.of2 w (SegC a b c d) (PtC x y) 25 23)
  obtain ⟨k, hk⟩ : ∃ k, inBx a b c d x y = k := ⟨_, rfl⟩
  have HK := Lib.hid hk
  clear hk
  go_enter Try.func4, Try.ntmps4
  obtain ⟨k0, k1, k2, k3, k4, k5⟩ := HB.out.c42p
  go_wp2_with fail
  go_region_held3 (fun w' => w'.cell? ⟨w.heap.size, 0, none⟩ = some (.int .i64 a) ∧ w'.cell? ⟨w.heap.size, 1, none⟩ = some (.int .i64 b) ∧ w'.cell? ⟨w.heap.size, 2, none⟩ = some (.int .i64 c) ∧ w'.cell? ⟨w.heap.size, 3, none⟩ = some (.int .i64 d) ∧ w'.cell? ⟨w.heap.size + 1, 0, none⟩ = some (.int .i64 x) ∧ w'.cell? ⟨w.heap.size + 1, 1, none⟩ = some (.int .i64 y)) (first | with_reducible exact ⟨k0, k1, k2, k3, k4, k5⟩ | with_reducible exact HB9.out.c42p | with_reducible exact HB.out.drew.c42p) (first
    | (go_at_call 8; refine (toBox_any _ _ _ _ _).mono ?_; rintro e w9 ⟨rfl, hb9⟩; have HB9 := Lib.hid (Vars.next (by first | exact HB9.out | exact HB.out.drew) hb9))
    | (go_at_call 11; refine (toPoint_any _ _ _).mono ?_; rintro e w9 ⟨rfl, hb9⟩; have HB9 := Lib.hid (Vars.next (by first | exact HB9.out | exact HB.out.drew) hb9))
    | (go_at_call 10; refine (sInBox_is _ _ _ _ _ _ _ _ HK.out).mono ?_; rintro e w9 ⟨rfl, hb9⟩; have HB9 := Lib.hid (Vars.next (by first | exact HB9.out | exact HB.out.drew) hb9)) | fail)
  all_goals
    have HC := HB9
    obtain ⟨k0, k1, k2, k3, k4, k5⟩ := HC.out.c42p
    go_wp2_with fail
    go_region_held3 (fun w' => w'.cell? ⟨w.heap.size, 0, none⟩ = some (.int .i64 a) ∧ w'.cell? ⟨w.heap.size, 1, none⟩ = some (.int .i64 b) ∧ w'.cell? ⟨w.heap.size, 2, none⟩ = some (.int .i64 c) ∧ w'.cell? ⟨w.heap.size, 3, none⟩ = some (.int .i64 d) ∧ w'.cell? ⟨w.heap.size + 1, 0, none⟩ = some (.int .i64 x) ∧ w'.cell? ⟨w.heap.size + 1, 1, none⟩ = some (.int .i64 y)) (first | with_reducible exact ⟨k0, k1, k2, k3, k4, k5⟩ | with_reducible exact HB8.out.c42p | with_reducible exact HC.out.drew.c42p) (first
      | (go_at_call 8; refine (toBox_any _ _ _ _ _).mono ?_; rintro e w8 ⟨rfl, hb8⟩; have HB8 := Lib.hid (Vars.next (by first | exact HB8.out | exact HC.out.drew) hb8))
      | (go_at_call 11; refine (toPoint_any _ _ _).mono ?_; rintro e w8 ⟨rfl, hb8⟩; have HB8 := Lib.hid (Vars.next (by first | exact HB8.out | exact HC.out.drew) hb8))
      | (go_at_call 12; refine (inBox_is _ _ _ _ _ _ _ _ HK.out).mono ?_; rintro e w8 ⟨rfl, hb8⟩; have HB8 := Lib.hid (Vars.next (by first | exact HB8.out | exact HC.out.drew) hb8)) | fail)
    all_goals
      cases k
      all_goals
        go_wp2
        go_ret
        exact ⟨rfl, HB8.out.1⟩
set_option maxRecDepth 100000 in
set_option maxHeartbeats 2000000 in
theorem law_FnExactGrowBox (a b c d n : Int) (w : World) (wa : (Lit.int .i64 a).wf = true) (wb : (Lit.int .i64 b).wf = true) (wc : (Lit.int .i64 c).wf = true) (wd : (Lit.int .i64 d).wf = true) (wn : (Lit.int .i64 n).wf = true) :
    Calls Try.prog 5 #[SegV a b c d, .int .i64 n] w fun e w' => e = .returned (.bool true) ∧ Below w.heap.size w w' := by
  clear wa wb wc wd wn
  have HB := Lib.hid (Vars.of1 w (SegC a b c d) 25)
  obtain ⟨z, hz⟩ : ∃ z, growV a b c d n = z := ⟨_, rfl⟩
  have HZ := Lib.hid hz
  clear hz
  obtain ⟨⟨z0, z1, z2, z3⟩, zb⟩ := z
  go_enter Try.func5, Try.ntmps5
  obtain ⟨k0, k1, k2, k3⟩ := HB.out.c40
  go_wp2_with fail
  refine (toBox_any _ _ _ _ _).mono ?_
  rintro e w1 ⟨rfl, hb1⟩
  have HB1 := Lib.hid (HB.out.next hb1)
  clear hb1 HB k0 k1 k2 k3
  go_wp2_with fail
  refine (sGrowBox_is a b c d n _ _ HZ.out).mono ?_
  rintro e w2 ⟨rfl, hb2⟩
  have HB2 := Lib.hid ((HB1.out.next hb2).al (.cells (SegC z0 z1 z2 z3) 29))
  have HQ := Lib.hid (Vars.of1 w2 (SegC z0 z1 z2 z3) 29)
  clear hb2 HB1
  obtain ⟨k0, k1, k2, k3⟩ := HB2.out.c40
  go_wp2_with fail
  refine (toBox_any _ _ _ _ _).mono ?_
  rintro e w3 ⟨rfl, hb3⟩
  have HB3 := Lib.hid (HB2.out.next hb3)
  have HQ3 := Lib.hid (HQ.out.next hb3)
  clear hb3 HB2 HQ k0 k1 k2 k3
  go_wp2_with fail
  refine (growBox_is a b c d n _ _ HZ.out).mono ?_
  rintro e w4 ⟨rfl, hb4⟩
  have HB4 := Lib.hid ((HB3.out.next hb4).al (.cells (SegC z0 z1 z2 z3) 29))
  have HQ4 := Lib.hid ((HQ3.out.next hb4).al (.cells (SegC z0 z1 z2 z3) 29))
  clear hb4 HB3 HQ3
  obtain ⟨j0, j1, j2, j3⟩ := HQ4.out.c40
  go_wp2_with fail
  refine (eqBox_yes _ _ _ _ _).mono ?_
  rintro e w5 ⟨rfl, hb5⟩
  have HB5 := Lib.hid (HB4.out.next hb5)
  clear hb5 HB4
  cases zb
  all_goals
    go_wp2
    go_ret
    exact ⟨rfl, HB5.out.1⟩
end Go.Proofs.Ytjnbdbgkecfkcab
