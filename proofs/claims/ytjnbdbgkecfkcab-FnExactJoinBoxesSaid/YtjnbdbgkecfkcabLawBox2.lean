/- The exact law of JoinBoxes. -/
import Derived.Test.YtjnbdbgkecfkcabBoxS
import Derived.Test.YtjnbdbgkecfkcabBox3
import Derived.Test.YtjnbdbgkecfkcabBoxI
import Derived.Test.YtjnbdbgkecfkcabLawSegTo
import Derived.Test.YtjnbdbgkecfkcabOneVar
import Derived.Test.YtjnbdbgkecfkcabOpenPts
import Derived.Test.YtjnbdbgkecfkcabHelpE
namespace Go.Proofs.Ytjnbdbgkecfkcab
open Go.ChangeShapes Go.WideShapes Go.ChangeAt Go.RowKit
set_option linter.unusedVariables false

set_option maxRecDepth 100000 in
set_option maxHeartbeats 2000000 in
theorem law_FnExactJoinBoxes (a b c d p q r s : Int) (w : World) (wa : (Lit.int .i64 a).wf = true) (wb : (Lit.int .i64 b).wf = true) (wc : (Lit.int .i64 c).wf = true) (wd : (Lit.int .i64 d).wf = true) (wp : (Lit.int .i64 p).wf = true) (wq : (Lit.int .i64 q).wf = true) (wr : (Lit.int .i64 r).wf = true) (ws : (Lit.int .i64 s).wf = true) :
    Calls Try.prog 6 #[SegV a b c d, SegV p q r s] w fun e w' => e = .returned (.bool true) ∧ Below w.heap.size w w' := by
  clear wa wb wc wd wp wq wr ws
  have HV0 := Lib.hid (Vars.of2 w (SegC a b c d) (SegC p q r s) 25 25)
  obtain ⟨z, hz⟩ : ∃ z, joinV a b c d p q r s = z := ⟨_, rfl⟩
  have HZ := Lib.hid hz
  clear hz
  obtain ⟨⟨z0, z1, z2, z3⟩, zb⟩ := z
  go_enter Try.func6, Try.ntmps6
  go_upto_region 1 with fail
  generalize ((w.alloc (.cells (SegC a b c d) 25)).alloc (.cells (SegC p q r s) 25)) = wz at HV0 ⊢
  go_cut [5, 6] (fun s5 s6 wx => Hid (∃ b5, s5 = .pointer (some ⟨b5, 0, none⟩) ∧ s6 = .bool zb ∧ Vars w wx [SegC a b c d, SegC p q r s] ∧ OneV (w.heap.size + 2) wx b5 (SegC z0 z1 z2 z3)))
  case first =>
    have HKD := Lib.hid HV0.out.drew.c44
    obtain ⟨k0, k1, k2, k3, k4, k5, k6, k7⟩ := HV0.out.c44
    go_region_held3 (fun w' => w'.cell? ⟨w.heap.size, 0, none⟩ = some (.int .i64 a) ∧ w'.cell? ⟨w.heap.size, 1, none⟩ = some (.int .i64 b) ∧ w'.cell? ⟨w.heap.size, 2, none⟩ = some (.int .i64 c) ∧ w'.cell? ⟨w.heap.size, 3, none⟩ = some (.int .i64 d) ∧ w'.cell? ⟨w.heap.size + 1, 0, none⟩ = some (.int .i64 p) ∧ w'.cell? ⟨w.heap.size + 1, 1, none⟩ = some (.int .i64 q) ∧ w'.cell? ⟨w.heap.size + 1, 2, none⟩ = some (.int .i64 r) ∧ w'.cell? ⟨w.heap.size + 1, 3, none⟩ = some (.int .i64 s)) (first | with_reducible exact ⟨k0, k1, k2, k3, k4, k5, k6, k7⟩ | with_reducible exact HKD.out | with_reducible exact HK.out | with_reducible exact (HV.out.al _).c44 | with_reducible exact ((HV0.out.al _).drew).c44 | with_reducible exact (HV0.out.drew.al _).c44 | with_reducible exact (Vars.putO HV.out HX.out _ _ _ _).c44 | fail) (first
      | (go_at_call 8; refine (toBox_any _ _ _ _ _).mono ?_; rintro e w9 ⟨rfl, hb9⟩; (first | have HX := Lib.hid (OneV.next HX.out hb9) | have HX := Lib.hid (OneV.next (OneV.new (m := w.heap.size + 2) _ HV.out.more2 _ _) hb9) | have HX := Lib.hid (OneV.next (OneV.drew (OneV.new (m := w.heap.size + 2) _ HV0.out.more2 _ _)) hb9) | skip); have HV := Lib.hid (Vars.next (by first | exact HV.out | exact HV.out.al _ | exact HV0.out.drew | exact (HV0.out.al _).drew) hb9); have HK := Lib.hid HV.out.c44; (first | (obtain ⟨x0, x1, x2, x3⟩ := HX.out.c4; obtain ⟨y0, y1, y2, y3⟩ := HX.out.f4) | skip))
      | (go_at_call 16; refine (sJoinBoxes_is _ _ _ _ _ _ _ _ _ _ HZ.out).mono ?_; rintro e w9 ⟨rfl, hb9⟩; (first | have HX := Lib.hid (OneV.next HX.out hb9) | have HX := Lib.hid (OneV.next (OneV.new (m := w.heap.size + 2) _ HV.out.more2 _ _) hb9) | have HX := Lib.hid (OneV.next (OneV.drew (OneV.new (m := w.heap.size + 2) _ HV0.out.more2 _ _)) hb9) | skip); have HV := Lib.hid (Vars.next (by first | exact HV.out | exact HV.out.al _ | exact HV0.out.drew | exact (HV0.out.al _).drew) hb9); have HK := Lib.hid HV.out.c44; (first | (obtain ⟨x0, x1, x2, x3⟩ := HX.out.c4; obtain ⟨y0, y1, y2, y3⟩ := HX.out.f4) | skip))
      | fail)
    all_goals
      go_wp2_with fail
      go_meet
      first
        | with_reducible exact Lib.hid ⟨_, rfl, rfl, Vars.putO HV.out HX.out _ _ _ _, HX.out.set4 _ _ _ _⟩
        | with_reducible exact Lib.hid ⟨_, rfl, rfl, HV.out.al _, OneV.new _ HV.out.more2 _ _⟩
  case rest =>
  obtain ⟨b1, rfl, rfl, hv, hy⟩ := hcut.out
  clear hcut HV0
  have HV0 := Lib.hid hv
  have HY0 := Lib.hid hy
  have hz2 := hv.more2
  clear hv hy
  go_upto_region 2 with fail
  go_cut [7, 8] (fun s5 s6 wx => Hid (∃ b5, s5 = .pointer (some ⟨b5, 0, none⟩) ∧ s6 = .bool zb ∧ Vars w wx [SegC a b c d, SegC p q r s] ∧ OneV (w.heap.size + 2) wx b5 (SegC z0 z1 z2 z3) ∧ OneV (w.heap.size + 2) wx b1 (SegC z0 z1 z2 z3)))
  case first =>
    have HKD := Lib.hid HV0.out.drew.c44
    obtain ⟨k0, k1, k2, k3, k4, k5, k6, k7⟩ := HV0.out.c44
    go_region_held3 (fun w' => w'.cell? ⟨w.heap.size, 0, none⟩ = some (.int .i64 a) ∧ w'.cell? ⟨w.heap.size, 1, none⟩ = some (.int .i64 b) ∧ w'.cell? ⟨w.heap.size, 2, none⟩ = some (.int .i64 c) ∧ w'.cell? ⟨w.heap.size, 3, none⟩ = some (.int .i64 d) ∧ w'.cell? ⟨w.heap.size + 1, 0, none⟩ = some (.int .i64 p) ∧ w'.cell? ⟨w.heap.size + 1, 1, none⟩ = some (.int .i64 q) ∧ w'.cell? ⟨w.heap.size + 1, 2, none⟩ = some (.int .i64 r) ∧ w'.cell? ⟨w.heap.size + 1, 3, none⟩ = some (.int .i64 s)) (first | with_reducible exact ⟨k0, k1, k2, k3, k4, k5, k6, k7⟩ | with_reducible exact HKD.out | with_reducible exact HK.out | with_reducible exact (HV.out.al _).c44 | with_reducible exact ((HV0.out.al _).drew).c44 | with_reducible exact (HV0.out.drew.al _).c44 | with_reducible exact (Vars.putO HV.out (HX.out.mono hz2) _ _ _ _).c44 | fail) (first
      | (go_at_call 8; refine (toBox_any _ _ _ _ _).mono ?_; rintro e w9 ⟨rfl, hb9⟩; (first | have HX := Lib.hid (OneV.next HX.out hb9) | have HX := Lib.hid (OneV.next (OneV.new (m := wc.heap.size) _ HZS.out _ _) hb9) | have HX := Lib.hid (OneV.next (OneV.drew (OneV.new (m := wc.heap.size) _ (Nat.le_refl _) _ _)) hb9) | skip); have HV := Lib.hid (Vars.next (by first | exact HV.out | exact HV.out.al _ | exact HV0.out.drew | exact (HV0.out.al _).drew) hb9); have HY := Lib.hid (OneV.next (by first | exact HY.out | exact HY.out.al _ | exact HY0.out.drew | exact (HY0.out.al _).drew) hb9); have HZS : Hid (wc.heap.size ≤ w9.heap.size) := Lib.hid (by first | exact Nat.le_trans HZS.out hb9.size | exact Nat.le_trans (Nat.le_trans HZS.out (by simp)) hb9.size | exact hb9.size | exact Nat.le_trans (by simp) hb9.size); have HK := Lib.hid HV.out.c44; (first | (obtain ⟨x0, x1, x2, x3⟩ := HX.out.c4; obtain ⟨y0, y1, y2, y3⟩ := HX.out.f4) | skip))
      | (go_at_call 17; refine (joinBoxes_is _ _ _ _ _ _ _ _ _ _ HZ.out).mono ?_; rintro e w9 ⟨rfl, hb9⟩; (first | have HX := Lib.hid (OneV.next HX.out hb9) | have HX := Lib.hid (OneV.next (OneV.new (m := wc.heap.size) _ HZS.out _ _) hb9) | have HX := Lib.hid (OneV.next (OneV.drew (OneV.new (m := wc.heap.size) _ (Nat.le_refl _) _ _)) hb9) | skip); have HV := Lib.hid (Vars.next (by first | exact HV.out | exact HV.out.al _ | exact HV0.out.drew | exact (HV0.out.al _).drew) hb9); have HY := Lib.hid (OneV.next (by first | exact HY.out | exact HY.out.al _ | exact HY0.out.drew | exact (HY0.out.al _).drew) hb9); have HZS : Hid (wc.heap.size ≤ w9.heap.size) := Lib.hid (by first | exact Nat.le_trans HZS.out hb9.size | exact Nat.le_trans (Nat.le_trans HZS.out (by simp)) hb9.size | exact hb9.size | exact Nat.le_trans (by simp) hb9.size); have HK := Lib.hid HV.out.c44; (first | (obtain ⟨x0, x1, x2, x3⟩ := HX.out.c4; obtain ⟨y0, y1, y2, y3⟩ := HX.out.f4) | skip))
      | fail)
    all_goals
      go_wp2_with fail
      go_meet
      first
        | with_reducible exact Lib.hid ⟨_, rfl, rfl, Vars.putO HV.out (HX.out.mono hz2) _ _ _ _, (HX.out.set4 _ _ _ _).mono hz2, HY.out.other4 (OneV.apart HY0.out HX.out (Nat.le_refl _)) _ _ _ _⟩
        | with_reducible exact Lib.hid ⟨_, rfl, rfl, HV.out.al _, OneV.new _ HV.out.more2 _ _, HY.out.al _⟩
  case rest =>
  obtain ⟨b2, rfl, rfl, hv, hx, hy⟩ := hcut.out
  obtain ⟨j0, j1, j2, j3⟩ := hx.c4
  obtain ⟨i0, i1, i2, i3⟩ := hy.c4
  clear hcut HV0 HY0 hz2
  have HV := Lib.hid hv
  clear hv hx hy
  go_wp2_with fail
  refine (eqBox_yes _ _ _ _ _).mono ?_
  rintro e w9 ⟨rfl, hb9⟩
  have HB := Lib.hid (HV.out.next hb9)
  clear hb9
  cases zb
  all_goals
    go_wp2
    go_ret
    exact ⟨rfl, HB.out.1⟩
end Go.Proofs.Ytjnbdbgkecfkcab
