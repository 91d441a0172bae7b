/- Segments: the functions of chapter 5 in package impl. -/
import Derived.Test.YtbnjaaegbmhopaaGreatDoorSeg
import Derived.Test.YtbnjaaegbmhopaaGreatDoorBoxC
import Derived.Deep.RegionHeld3
import Derived.Deep.DeepCutAuto
namespace Go.Proofs.YtbnjaaegbmhopaaGreatDoor
open Go.ChangeShapes Go.WideShapes Go.ChangeAt Go.RowKit
set_option linter.unusedVariables false

theorem drew_size (w : World) : w.drew.heap.size = w.heap.size := rfl
/-- A valid segment's value with its box beside it. -/
abbrev BoxedC (a b c d : Int) : Array Value := #[.int .i64 a, .int .i64 b, .int .i64 c, .int .i64 d, .int .i64 (min a c), .int .i64 (min b d), .int .i64 (max a c), .int .i64 (max b d)]
theorem isS_p2 {a b c d : Int} (h : isS a b c d = true) : isP2 a b c d = true := by
  simp only [isS, Bool.and_eq_true] at h; exact h.1
theorem box2_all (a b c d : Int) : allP [(a, b), (c, d)] = isP2 a b c d := by simp [allP, isP2]
theorem box2_no {a b c d : Int} (h : isP2 a b c d = false) : boxOfV [(a, b), (c, d)] = ((0, 0, 0, 0), false) := by
  rw [boxOf_ps, box2_all, h]; rfl
theorem box2_yes {a b c d : Int} (h : isP2 a b c d = true) : boxOfV [(a, b), (c, d)] = ((min a c, min b d, max a c, max b d), true) := by
  rw [boxOf_ps, box2_all, h]; rfl
theorem box2_call (W : World) (T : TypeId) (a b c d : Int) (x0 x1 x2 x3 : Int) (z : Bool) (A : Addr) (hA : A = ⟨W.heap.size, 0, none⟩) (h : boxOfV [(a, b), (c, d)] = ((x0, x1, x2, x3), z)) :
    Calls Tryz.prog 151 #[.slice (some A) 2 2] (W.alloc (.cells #[.int .i64 a, .int .i64 b, .int .i64 c, .int .i64 d] T)) fun e w' => e = .returned (.tuple #[SegV x0 x1 x2 x3, .bool z]) ∧ Below (W.alloc (.cells #[.int .i64 a, .int .i64 b, .int .i64 c, .int .i64 d] T)).heap.size (W.alloc (.cells #[.int .i64 a, .int .i64 b, .int .i64 c, .int .i64 d] T)) w' := by
  subst hA
  exact boxOf_ps_is _ 2 [(a, b), (c, d)] _ _ (seesP_new _ _ _ _ _ _ (by rfl) (by simp) (by simp)) (by simp) (by simp) (by decide) h
theorem outline_no (a b c d : Int) (w : World) (hs : isS a b c d = false) :
    Calls Tryz.prog 122 #[SegV a b c d] w fun e w' => e = .returned (.iface 199 (.agg #[])) ∧ Below w.heap.size w w' := by
  go_enter Tryz.func122, Tryz.ntmps122
  cases h : isP2 a b c d
  · go_wp2_with fail
    refine (box2_call _ _ a b c d 0 0 0 0 false _ (by simp) (box2_no h)).mono ?_
    rintro e w1 ⟨rfl, hb1⟩
    have HB := Lib.hid ((((Vars.of1 w (SegC a b c d) 78).al _).next hb1).al (.cells (SegC 0 0 0 0) 123))
    clear hb1 h hs
    go_wp2
    go_ret
    exact ⟨rfl, HB.out.1⟩
  · have heq : a = c ∧ b = d := by simpa [isS, h] using hs
    obtain ⟨rfl, rfl⟩ := heq
    obtain ⟨x0, h0⟩ : ∃ z, min a a = z := ⟨_, rfl⟩
    obtain ⟨x1, h1⟩ : ∃ z, min b b = z := ⟨_, rfl⟩
    obtain ⟨x2, h2⟩ : ∃ z, max a a = z := ⟨_, rfl⟩
    obtain ⟨x3, h3⟩ : ∃ z, max b b = z := ⟨_, rfl⟩
    have hb2 := box2_yes h
    rw [h0, h1, h2, h3] at hb2
    have HX := Lib.hid hb2
    clear hb2 h0 h1 h2 h3 h hs
    go_wp2_with fail
    refine (box2_call _ _ a b a b x0 x1 x2 x3 true _ (by simp) HX.out).mono ?_
    rintro e w1 ⟨rfl, hb1⟩
    have HB := Lib.hid ((((Vars.of1 w (SegC a b a b) 78).al _).next hb1).al (.cells (SegC x0 x1 x2 x3) 123))
    clear hb1
    obtain ⟨k0, k1, k2, k3⟩ := HB.out.c4 w.heap.size 0 rfl rfl
    go_wp2
    go_ret
    exact ⟨rfl, HB.out.1⟩
set_option maxHeartbeats 2000000 in
theorem outline_yes (a b c d : Int) (w : World) (hs : isS a b c d = true) :
    Calls Tryz.prog 122 #[SegV a b c d] w fun e w' => e = .returned (.iface 125 (.agg (BoxedC a b c d))) ∧ Below w.heap.size w w' := by
  obtain ⟨hA, hC, hne⟩ := isS_at hs
  have h := isS_p2 hs
  clear hs
  obtain ⟨x0, h0⟩ : ∃ z, min a c = z := ⟨_, rfl⟩
  obtain ⟨x1, h1⟩ : ∃ z, min b d = z := ⟨_, rfl⟩
  obtain ⟨x2, h2⟩ : ∃ z, max a c = z := ⟨_, rfl⟩
  obtain ⟨x3, h3⟩ : ∃ z, max b d = z := ⟨_, rfl⟩
  have hb2 := box2_yes h
  rw [h0, h1, h2, h3] at hb2
  unfold BoxedC
  rw [h0, h1, h2, h3]
  have HX := Lib.hid hb2
  clear hA hC h h0 h1 h2 h3 hb2
  go_enter Tryz.func122, Tryz.ntmps122
  go_wp2_with fail
  refine (box2_call _ _ a b c d x0 x1 x2 x3 true _ (by simp) HX.out).mono ?_
  rintro e w1 ⟨rfl, hb1⟩
  have HB := Lib.hid ((((Vars.of1 w (SegC a b c d) 78).al _).next hb1).al (.cells (SegC x0 x1 x2 x3) 123))
  clear hb1
  obtain ⟨k0, k1, k2, k3⟩ := HB.out.c4 w.heap.size 0 rfl rfl
  by_cases hac : a = c
  · have hbd : ¬ b = d := by omega
    subst hac
    go_wp2
    go_ret
    exact ⟨rfl, HB.out.1⟩
  · go_wp2
    go_ret
    exact ⟨rfl, HB.out.1⟩
end Go.Proofs.YtbnjaaegbmhopaaGreatDoor
