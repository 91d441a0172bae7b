/- The exact laws of boxes: their walks. -/
import Derived.Test.YtjnbdbgkecfkcaaBoxS
import Derived.Test.YtjnbdbgkecfkcaaBox3
import Derived.Test.YtjnbdbgkecfkcaaBoxI
import Derived.Test.YtjnbdbgkecfkcaaLawSegTo
namespace Go.Proofs.Ytjnbdbgkecfkcaa
open Go.ChangeShapes Go.WideShapes Go.ChangeAt Go.RowKit
set_option linter.unusedVariables false

theorem law_FnExactIsBox (a b c d : Int) (w : World) (wa : (Lit.int .i64 a).wf = true) (wb : (Lit.int .i64 b).wf = true) (wc : (Lit.int .i64 c).wf = true) (wd : (Lit.int .i64 d).wf = true) :
    Calls Try.prog 15 #[SegV a b c d] w fun e w' => e = .returned (.bool true) ∧ Below w.heap.size w w' := by
  clear wa wb wc wd
  have HB := Lib.hid (Vars.of1 w (SegC a b c d) 77)
  obtain ⟨k, hk⟩ : ∃ k, isBx a b c d = k := ⟨_, rfl⟩
  have HK := Lib.hid hk
  clear hk
  go_enter Try.func15, Try.ntmps15
  obtain ⟨k0, k1, k2, k3⟩ := HB.out.c40
  go_wp2_with fail
  refine (toBox_any _ _ _ _ _).mono ?_
  rintro e w1 ⟨rfl, hb1⟩
  have HB1 := Lib.hid (HB.out.next hb1)
  clear hb1 HB k0 k1 k2 k3
  go_wp2_with fail
  refine (sIsBox_is _ _ _ _ _ _ HK.out).mono ?_
  rintro e w2 ⟨rfl, hb2⟩
  have HB2 := Lib.hid (HB1.out.next hb2)
  clear hb2 HB1
  obtain ⟨k0, k1, k2, k3⟩ := HB2.out.c40
  go_wp2_with fail
  refine (toBox_any _ _ _ _ _).mono ?_
  rintro e w3 ⟨rfl, hb3⟩
  have HB3 := Lib.hid (HB2.out.next hb3)
  clear hb3 HB2 k0 k1 k2 k3
  go_wp2_with fail
  refine (isBox_is _ _ _ _ _ _ HK.out).mono ?_
  rintro e w4 ⟨rfl, hb4⟩
  have HB4 := Lib.hid (HB3.out.next hb4)
  clear hb4 HB3
  cases k
  all_goals
    go_wp2
    go_ret
    exact ⟨rfl, HB4.out.1⟩
set_option maxHeartbeats 2000000 in
theorem law_FnExactBoxesMeet (a b c d p q r s : Int) (w : World) (wa : (Lit.int .i64 a).wf = true) (wb : (Lit.int .i64 b).wf = true) (wc : (Lit.int .i64 c).wf = true) (wd : (Lit.int .i64 d).wf = true) (wp : (Lit.int .i64 p).wf = true) (wq : (Lit.int .i64 q).wf = true) (wr : (Lit.int .i64 r).wf = true) (ws : (Lit.int .i64 s).wf = true) :
    Calls Try.prog 17 #[SegV a b c d, SegV p q r s] w fun e w' => e = .returned (.bool true) ∧ Below w.heap.size w w' := by
  clear wa wb wc wd wp wq wr ws
  have HB := Lib.hid (Vars.of2 w (SegC a b c d) (SegC p q r s) 77 77)
  obtain ⟨k, hk⟩ : ∃ k, mtB a b c d p q r s = k := ⟨_, rfl⟩
  have HK := Lib.hid hk
  clear hk
  go_enter Try.func17, Try.ntmps17
  obtain ⟨k0, k1, k2, k3, k4, k5, k6, k7⟩ := HB.out.c44
  go_wp2_with fail
  go_region_held3 (fun w' => w'.cell? ⟨w.heap.size, 0, none⟩ = some (.int .i64 a) ∧ w'.cell? ⟨w.heap.size, 1, none⟩ = some (.int .i64 b) ∧ w'.cell? ⟨w.heap.size, 2, none⟩ = some (.int .i64 c) ∧ w'.cell? ⟨w.heap.size, 3, none⟩ = some (.int .i64 d) ∧ w'.cell? ⟨w.heap.size + 1, 0, none⟩ = some (.int .i64 p) ∧ w'.cell? ⟨w.heap.size + 1, 1, none⟩ = some (.int .i64 q) ∧ w'.cell? ⟨w.heap.size + 1, 2, none⟩ = some (.int .i64 r) ∧ w'.cell? ⟨w.heap.size + 1, 3, none⟩ = some (.int .i64 s)) (first | with_reducible exact ⟨k0, k1, k2, k3, k4, k5, k6, k7⟩ | with_reducible exact HB9.out.c44 | with_reducible exact HB.out.drew.c44) (first
    | (go_at_call 65; refine (toBox_any _ _ _ _ _).mono ?_; rintro e w9 ⟨rfl, hb9⟩; have HB9 := Lib.hid (Vars.next (by first | exact HB9.out | exact HB.out.drew) hb9))
    | (go_at_call 41; refine (sBoxesMeet_is _ _ _ _ _ _ _ _ _ _ HK.out).mono ?_; rintro e w9 ⟨rfl, hb9⟩; have HB9 := Lib.hid (Vars.next (by first | exact HB9.out | exact HB.out.drew) hb9)) | fail)
  all_goals
    have HC := HB9
    obtain ⟨k0, k1, k2, k3, k4, k5, k6, k7⟩ := HC.out.c44
    go_wp2_with fail
    go_region_held3 (fun w' => w'.cell? ⟨w.heap.size, 0, none⟩ = some (.int .i64 a) ∧ w'.cell? ⟨w.heap.size, 1, none⟩ = some (.int .i64 b) ∧ w'.cell? ⟨w.heap.size, 2, none⟩ = some (.int .i64 c) ∧ w'.cell? ⟨w.heap.size, 3, none⟩ = some (.int .i64 d) ∧ w'.cell? ⟨w.heap.size + 1, 0, none⟩ = some (.int .i64 p) ∧ w'.cell? ⟨w.heap.size + 1, 1, none⟩ = some (.int .i64 q) ∧ w'.cell? ⟨w.heap.size + 1, 2, none⟩ = some (.int .i64 r) ∧ w'.cell? ⟨w.heap.size + 1, 3, none⟩ = some (.int .i64 s)) (first | with_reducible exact ⟨k0, k1, k2, k3, k4, k5, k6, k7⟩ | with_reducible exact HB8.out.c44 | with_reducible exact HC.out.drew.c44) (first
      | (go_at_call 65; refine (toBox_any _ _ _ _ _).mono ?_; rintro e w8 ⟨rfl, hb8⟩; have HB8 := Lib.hid (Vars.next (by first | exact HB8.out | exact HC.out.drew) hb8))
      | (go_at_call 40; refine (boxesMeet_is _ _ _ _ _ _ _ _ _ _ HK.out).mono ?_; rintro e w8 ⟨rfl, hb8⟩; have HB8 := Lib.hid (Vars.next (by first | exact HB8.out | exact HC.out.drew) hb8)) | fail)
    all_goals
      cases k
      all_goals
        go_wp2
        go_ret
        exact ⟨rfl, HB8.out.1⟩
end Go.Proofs.Ytjnbdbgkecfkcaa
