/- The laws' own helpers of segments: a copy, a comparison. -/
import Derived.Test.YtbnjaaegbmhopaaSeg
import Derived.Test.YtbnjaaegbmhopaaVars2
namespace Go.Proofs.Ytbnjaaegbmhopaa
open Go.ChangeShapes Go.WideShapes Go.ChangeAt Go.RowKit
set_option linter.unusedVariables false

theorem toSegment_any (a b c d : Int) (w : World) :
    Calls Try.prog 52 #[SegV a b c d] w fun e w' => e = .returned (SegV a b c d) ∧ Below w.heap.size w w' := by
  have HB := Lib.hid (Vars.of3 w (SegC a b c d) (SegC 0 0 0 0) (SegC 0 0 0 0) 75 38 38)
  go_enter Try.func52, Try.ntmps52
  obtain ⟨k0, k1, k2, k3⟩ := HB.out.c40
  go_wp2_with fail
  refine (toPoint_any _ _ _).mono ?_
  rintro e w1 ⟨rfl, hb1⟩
  have HB1 := Lib.hid (HB.out.next hb1)
  clear hb1 HB k0 k1 k2 k3
  obtain ⟨k0, k1, k2, k3⟩ := HB1.out.c40
  obtain ⟨f0, f1, f2, f3⟩ := HB1.out.fr42
  obtain ⟨j0, j1, j2, j3⟩ := HB1.out.c42
  go_wp2_with fail
  refine (toPoint_any _ _ _).mono ?_
  rintro e w2 ⟨rfl, hb2⟩
  have HB2 := Lib.hid ((HB1.out.set2At (w.heap.size + 1 + 1) 2 0 rfl rfl (.int .i64 a) (.int .i64 b)).next hb2)
  clear hb2 HB1 k0 k1 k2 k3 f0 f1 f2 f3 j0 j1 j2 j3
  obtain ⟨k0, k1, k2, k3⟩ := HB2.out.c40
  obtain ⟨j0, j1, j2, j3⟩ := HB2.out.c42
  obtain ⟨q0, q1, q2, q3⟩ := HB2.out.c41
  obtain ⟨f0, f1, f2, f3⟩ := HB2.out.fr42
  obtain ⟨g0, g1, g2, g3⟩ : _ ∧ _ ∧ _ ∧ _ := ⟨HB2.out.frozen (w.heap.size + 1) 1 0 rfl rfl, HB2.out.frozen (w.heap.size + 1) 1 1 rfl rfl, HB2.out.frozen (w.heap.size + 1) 1 2 rfl rfl, HB2.out.frozen (w.heap.size + 1) 1 3 rfl rfl⟩
  go_wp2
  refine bodyPost_ret (v := SegV a b c d) (by simp [results, Try.results52, go_sem, q0, q1, q2, q3]) rfl ⟨rfl, ?_⟩
  exact (Vars.set40 (HB2.out.set2At (w.heap.size + 1 + 1) 2 2 rfl rfl (.int .i64 c) (.int .i64 d)) (by omega) _ _ _ _)
end Go.Proofs.Ytbnjaaegbmhopaa
