/- Lines: IsSimple and LinesMeet of the model. -/
import Derived.Test.YtbnjaaegbmhopaaGreatDoorSegI
import Derived.ChangeKeysEq
import Derived.Test.YtbnjaaegbmhopaaGreatDoorTabs
import Derived.Test.YtbnjaaegbmhopaaGreatDoorPoint2
import Derived.Deep.LoopGhost
import Derived.Deep.DeepCutAuto
import Derived.Deep.QuietTactic
import Derived.BigQuiet
import Derived.Test.YtbnjaaegbmhopaaGreatDoorLine
import Derived.Test.YtbnjaaegbmhopaaGreatDoorHelpE
import Derived.RangeFuncNested
import Derived.RangeFuncBound
import Derived.RangeFuncCalls
import Derived.RangeFuncLeaves
import Derived.Shelf.Abstract
import Derived.Shelf.RegionOpen
import Derived.WalkKit
import Derived.OwnWalkIn
import Derived.TacticsInMore
import Derived.LoopNIn
import Derived.LoopIn
import Derived.Stop.RegionWithIn
import Derived.Test.YtbnjaaegbmhopaaGreatDoorLineS1
section
/- Segments: the functions of chapter 5 in package impl, by their values. -/
namespace Go.Proofs.YtbnjaaegbmhopaaGreatDoor
open Go.ChangeShapes Go.WideShapes Go.ChangeAt Go.RowKit
set_option linter.unusedVariables false

abbrev NoC : Array Value := #[.int .i64 0, .int .i64 0, .int .i64 0, .int .i64 0, .int .i64 0, .int .i64 0, .int .i64 0, .int .i64 0]
theorem assertS_no (w : World) : (Instr.typeAssert (.iface 199 (.agg #[])) 168 125 true).run Tryz.prog w = .ok (.tuple #[.agg NoC, .bool false]) w := by kernel_rfl
theorem assertS_yes (a b c d p q r s : Int) (w : World) : (Instr.typeAssert (.iface 125 (.agg #[.int .i64 a, .int .i64 b, .int .i64 c, .int .i64 d, .int .i64 p, .int .i64 q, .int .i64 r, .int .i64 s])) 168 125 true).run Tryz.prog w = .ok (.tuple #[.agg #[.int .i64 a, .int .i64 b, .int .i64 c, .int .i64 d, .int .i64 p, .int .i64 q, .int .i64 r, .int .i64 s], .bool true]) w := by kernel_rfl
theorem boxS_no (a b c d : Int) (w : World) (hs : isS a b c d = false) :
    Calls Tryz.prog 89 #[SegV a b c d] w fun e w' => e = .returned (.tuple #[.agg NoC, .bool false]) ∧ Below w.heap.size w w' := by
  go_enter Tryz.func89, Tryz.ntmps89
  have ha := assertS_no
  go_wp2_with fail
  refine (outline_no a b c d _ hs).mono ?_
  rintro e w1 ⟨rfl, hb1⟩
  have HB := Lib.hid ((Vars.of2 w (SegC a b c d) NoC 78 125).next hb1)
  clear hb1
  have hB := HB.out.al (.cells NoC 125)
  obtain ⟨k0, k1, k2, k3, k4, k5, k6, k7⟩ := hB.c8 (w.heap.size + 1) 1 rfl rfl
  obtain ⟨f0, f1, f2, f3, f4, f5, f6, f7⟩ := HB.out.fr81
  obtain ⟨g0, g1, g2, g3, g4, g5, g6, g7⟩ := hB.fr81
  have hn : ¬ w.heap.size + 1 = w1.heap.size := by have := HB.out.more2; omega
  go_wp2
  refine bodyPost_ret (v := .tuple #[.agg NoC, .bool false]) (by simp [results, Tryz.results89, go_sem, k0, k1, k2, k3, k4, k5, k6, k7]) rfl ?_
  exact ⟨rfl, hB.set80 (by omega) _ _ _ _ _ _ _ _⟩
theorem boxS_yes (a b c d : Int) (w : World) (hs : isS a b c d = true) :
    Calls Tryz.prog 89 #[SegV a b c d] w fun e w' => e = .returned (.tuple #[.agg (BoxedC a b c d), .bool true]) ∧ Below w.heap.size w w' := by
  go_enter Tryz.func89, Tryz.ntmps89
  have ha := assertS_yes a b c d (min a c) (min b d) (max a c) (max b d)
  go_wp2_with fail
  refine (outline_yes a b c d _ hs).mono ?_
  rintro e w1 ⟨rfl, hb1⟩
  have HB := Lib.hid ((Vars.of2 w (SegC a b c d) NoC 78 125).next hb1)
  clear hb1
  have hB := HB.out.al (.cells (BoxedC a b c d) 125)
  obtain ⟨k0, k1, k2, k3, k4, k5, k6, k7⟩ := hB.c8 (w.heap.size + 1) 1 rfl rfl
  obtain ⟨f0, f1, f2, f3, f4, f5, f6, f7⟩ := HB.out.fr81
  obtain ⟨g0, g1, g2, g3, g4, g5, g6, g7⟩ := hB.fr81
  have hn : ¬ w.heap.size + 1 = w1.heap.size := by have := HB.out.more2; omega
  go_wp2
  refine bodyPost_ret (v := .tuple #[.agg (BoxedC a b c d), .bool true]) (by simp [results, Tryz.results89, go_sem, k0, k1, k2, k3, k4, k5, k6, k7]) rfl ?_
  exact ⟨rfl, hB.set80 (by omega) _ _ _ _ _ _ _ _⟩
/-- A side's mark. -/
def runeV (z : Int) : Int := if z = 1 then 43 else if z = -1 then 45 else 48
theorem markSide_any (a b c d x y : Int) (w : World) :
    Calls Tryz.prog 91 #[SegV a b c d, PtV x y] w fun e w' => e = .returned (.int .i32 (runeV (sideV a b c d x y))) ∧ Below w.heap.size w w' := by
  have HB := Lib.hid (Vars.of2 w (SegC a b c d) (PtC x y) 78 33)
  obtain ⟨z, hz⟩ : ∃ z, sideV a b c d x y = z := ⟨_, rfl⟩
  have hc := cmp_bd ((c - a) * (y - b)) ((d - b) * (x - a))
  have hzc : z = 1 ∨ z = 0 ∨ z = -1 := by
    rw [← hz]; unfold sideV; split
    · omega
    · exact .inr (.inl rfl)
  clear hc
  rw [hz]
  go_enter Tryz.func91, Tryz.ntmps91
  go_wp2_with fail
  refine (sideOf_any a b c d x y _).mono ?_
  rw [hz]
  rintro e w1 ⟨rfl, hb1⟩
  have HB1 := Lib.hid (HB.out.next hb1)
  clear hb1 HB hz
  rcases hzc with rfl | rfl | rfl
  all_goals
    go_wp2
    go_ret
    exact ⟨rfl, HB1.out.1⟩
end Go.Proofs.YtbnjaaegbmhopaaGreatDoor
end
section
/- Segments: IsSegment, IsOn, IsBetween, TurnSegment and the marks, in package impl. -/
namespace Go.Proofs.YtbnjaaegbmhopaaGreatDoor
open Go.ChangeShapes Go.WideShapes Go.ChangeAt Go.RowKit
set_option linter.unusedVariables false

theorem isSegment_any (a b c d : Int) (w : World) :
    Calls Tryz.prog 156 #[SegV a b c d] w fun e w' => e = .returned (.bool (isS a b c d)) ∧ Below w.heap.size w w' := by
  cases hs : isS a b c d
  · go_enter Tryz.func156, Tryz.ntmps156
    go_wp2_with fail
    refine (boxS_no a b c d _ hs).mono ?_
    rintro e w1 ⟨rfl, hb1⟩
    have HB := Lib.hid (((Vars.of1 w (SegC a b c d) 78).next hb1).al (.cells NoC 125))
    clear hb1
    go_wp2
    go_ret
    exact ⟨rfl, HB.out.1⟩
  · go_enter Tryz.func156, Tryz.ntmps156
    go_wp2_with fail
    refine (boxS_yes a b c d _ hs).mono ?_
    rintro e w1 ⟨rfl, hb1⟩
    have HB := Lib.hid (((Vars.of1 w (SegC a b c d) 78).next hb1).al (.cells (BoxedC a b c d) 125))
    clear hb1
    go_wp2
    go_ret
    exact ⟨rfl, HB.out.1⟩
theorem markSide_is (a b c d x y k : Int) (w : World) (h : runeV (sideV a b c d x y) = k) :
    Calls Tryz.prog 91 #[SegV a b c d, PtV x y] w fun e w' => e = .returned (.int .i32 k) ∧ Below w.heap.size w w' := by
  subst h; exact markSide_any a b c d x y w
/-- Is the point on the segment, as package impl asks. -/
theorem on_eq {a b c d x y : Int} (hs : isS a b c d = true) : onV a b c d x y = (inB x (min a c) (max a c) && (inB y (min b d) (max b d) && decide (sideV a b c d x y = 0))) := by
  obtain ⟨hA, hC, hne⟩ := isS_at hs
  unfold onV
  rw [hs, Bool.true_and]
  cases h1 : inB x (min a c) (max a c)
  · rw [Bool.false_and]
    refine decide_eq_false fun h => ?_
    obtain ⟨x0, x1, _⟩ := h
    rw [inB_yes x0 x1] at h1; cases h1
  · cases h2 : inB y (min b d) (max b d)
    · rw [Bool.false_and, Bool.and_false]
      refine decide_eq_false fun h => ?_
      obtain ⟨_, _, y0, y1, _⟩ := h
      rw [inB_yes y0 y1] at h2; cases h2
    · obtain ⟨x0, x1⟩ := inB_bd h1
      obtain ⟨y0, y1⟩ := inB_bd h2
      rw [Bool.true_and, Bool.true_and]
      refine decide_eq_decide.2 ?_
      rw [side_sg (isP3_of hA hC (by omega)), sg_zero]
      exact ⟨fun h => h.2.2.2.2, fun h => ⟨x0, x1, y0, y1, h⟩⟩
theorem on_no1 {a b c d x y : Int} (hs : isS a b c d = true) (h : inB x (min a c) (max a c) = false) : onV a b c d x y = false := by rw [on_eq hs, h]; rfl
theorem on_no2 {a b c d x y : Int} (hs : isS a b c d = true) (h : inB y (min b d) (max b d) = false) : onV a b c d x y = false := by rw [on_eq hs, h]; simp
theorem on_by {a b c d x y z : Int} (hs : isS a b c d = true) (h : inB x (min a c) (max a c) = true) (h' : inB y (min b d) (max b d) = true) (hz : sideV a b c d x y = z) : onV a b c d x y = decide (z = 0) := by rw [on_eq hs, h, h', hz]; simp
/-- Is the point on the segment: in its box, and on its line. -/
theorem isBx_of {a b c d : Int} (hs : isS a b c d = true) : isBx (min a c) (min b d) (max a c) (max b d) = true := by
  obtain ⟨hA, hC, hne⟩ := isS_at hs
  exact isBx_yes (isP_of (by omega) (by omega) (by omega) (by omega)) (isP_of (by omega) (by omega) (by omega) (by omega)) (by omega) (by omega)
theorem on_box {a b c d x y : Int} (hs : isS a b c d = true) : onV a b c d x y = (inBx (min a c) (min b d) (max a c) (max b d) x y && decide (sideV a b c d x y = 0)) := by
  rw [on_eq hs, inBx, isBx_of hs, Bool.true_and, Bool.and_assoc]
theorem isOn_any (a b c d x y : Int) (w : World) :
    Calls Tryz.prog 52 #[SegV a b c d, PtV x y] w fun e w' => e = .returned (.bool (onV a b c d x y)) ∧ Below w.heap.size w w' := by
  cases hs : isS a b c d
  · have HO := Lib.hid (onV_no (x := x) (y := y) hs)
    go_enter Tryz.func52, Tryz.ntmps52
    go_wp2_with fail
    refine (boxS_no a b c d _ hs).mono ?_
    rintro e w1 ⟨rfl, hb1⟩
    have HB := Lib.hid (((Vars.of2 w (SegC a b c d) (PtC x y) 78 33).next hb1).al (.cells NoC 125))
    clear hb1
    go_wp2
    go_ret
    exact ⟨ret_eq HO.out.symm, HB.out.1⟩
  · have HO := Lib.hid (on_box (x := x) (y := y) hs)
    go_enter Tryz.func52, Tryz.ntmps52
    go_wp2_with fail
    refine (boxS_yes a b c d _ hs).mono ?_
    rintro e w1 ⟨rfl, hb1⟩
    have HB := Lib.hid (((Vars.of2 w (SegC a b c d) (PtC x y) 78 33).next hb1).al (.cells (BoxedC a b c d) 125))
    clear hb1 hs
    obtain ⟨k0, k1, k2, k3, k4, k5⟩ := HB.out.c42p
    go_wp2_with fail
    cases hu : inBx (min a c) (min b d) (max a c) (max b d) x y
    · refine (inBox_is _ _ _ _ _ _ false _ hu).mono ?_
      rintro e w2 ⟨rfl, hb2⟩
      have HB2 := Lib.hid (HB.out.next hb2)
      clear hb2
      go_wp2
      go_ret
      exact ⟨ret_eq (by rw [HO.out, hu]; rfl), HB2.out.1⟩
    · refine (inBox_is _ _ _ _ _ _ true _ hu).mono ?_
      rintro e w2 ⟨rfl, hb2⟩
      have HB2 := Lib.hid (HB.out.next hb2)
      clear hb2 k0 k1 k2 k3 k4 k5
      obtain ⟨k0, k1, k2, k3, k4, k5⟩ := HB2.out.c42p
      obtain ⟨z, hz⟩ : ∃ z, sideV a b c d x y = z := ⟨_, rfl⟩
      have HO2 : Hid (onV a b c d x y = decide (z = 0)) := Lib.hid (by rw [HO.out, hu, hz]; rfl)
      have hzc := sides3 a b c d x y
      rw [hz] at hzc
      clear hu
      rcases hzc with rfl | rfl | rfl
      all_goals
        have HZ := Lib.hid hz
        clear hz
        go_wp2_with fail
        refine (markSide_is a b c d x y _ _ (by rw [HZ.out])).mono ?_
        rintro e w3 ⟨rfl, hb3⟩
        have HB3 := Lib.hid (HB2.out.next hb3)
        clear hb3
        go_wp2
        go_ret
        exact ⟨ret_eq (by rw [HO2.out] <;> rfl), HB3.out.1⟩
theorem turn_any (a b c d : Int) (w : World) :
    Calls Tryz.prog 118 #[SegV a b c d] w fun e w' => e = .returned (SegV c d a b) ∧ Below w.heap.size w w' := by
  go_enter Tryz.func118, Tryz.ntmps118
  go_wp2
  refine bodyPost_ret (v := SegV c d a b) (by simp [results, Tryz.results118, go_sem]) rfl ⟨rfl, ?_⟩
  exact (Vars.of2 w (SegC a b c d) (SegC c d a b) 78 78).1
end Go.Proofs.YtbnjaaegbmhopaaGreatDoor
end
section
/- Segments: the marks of ends, and how two segments meet, in package impl. -/
namespace Go.Proofs.YtbnjaaegbmhopaaGreatDoor
open Go.ChangeShapes Go.WideShapes Go.ChangeAt Go.RowKit
set_option linter.unusedVariables false

abbrev MkV (m n : Int) : Value := .agg #[.int .i32 m, .int .i32 n]
abbrev MkC (m n : Int) : Array Value := #[.int .i32 m, .int .i32 n]
set_option maxHeartbeats 4000000 in
theorem markEnds_any (a b c d p q r s : Int) (w : World) :
    Calls Tryz.prog 131 #[SegV a b c d, SegV p q r s] w fun e w' => e = .returned (MkV (runeV (sideV a b c d p q)) (runeV (sideV a b c d r s))) ∧ Below w.heap.size w w' := by
  have HB := Lib.hid (Vars.of3 w (SegC a b c d) (SegC p q r s) (MkC 0 0) 78 78 175)
  obtain ⟨m, hm⟩ : ∃ m, runeV (sideV a b c d p q) = m := ⟨_, rfl⟩
  obtain ⟨n, hn⟩ : ∃ n, runeV (sideV a b c d r s) = n := ⟨_, rfl⟩
  have HM := Lib.hid hm
  have HN := Lib.hid hn
  rw [hm, hn]
  clear hm hn
  go_enter Tryz.func131, Tryz.ntmps131
  go_upto_region 1 with fail
  generalize (((w.alloc (.cells (SegC a b c d) 78)).alloc (.cells (SegC p q r s) 78)).alloc (.cells (MkC 0 0) 175)) = wz at HB ⊢
  obtain ⟨k0, k1, k2, k3, k4, k5, k6, k7⟩ := HB.out.c44
  obtain ⟨j0, j1⟩ := HB.out.c2 (w.heap.size + 1 + 1) 2 rfl rfl
  have j2 := HB.out.frozen (w.heap.size + 1 + 1) 2 0 rfl rfl
  have j3 := HB.out.frozen (w.heap.size + 1 + 1) 2 1 rfl rfl
  go_region_held3 (fun w' => w'.cell? ⟨w.heap.size, 0, none⟩ = some (.int .i64 a) ∧ w'.cell? ⟨w.heap.size, 1, none⟩ = some (.int .i64 b) ∧ w'.cell? ⟨w.heap.size, 2, none⟩ = some (.int .i64 c) ∧ w'.cell? ⟨w.heap.size, 3, none⟩ = some (.int .i64 d) ∧ w'.cell? ⟨w.heap.size + 1, 0, none⟩ = some (.int .i64 p) ∧ w'.cell? ⟨w.heap.size + 1, 1, none⟩ = some (.int .i64 q) ∧ w'.cell? ⟨w.heap.size + 1, 2, none⟩ = some (.int .i64 r) ∧ w'.cell? ⟨w.heap.size + 1, 3, none⟩ = some (.int .i64 s)) (first | with_reducible exact ⟨k0, k1, k2, k3, k4, k5, k6, k7⟩ | with_reducible exact HB9.out.c44 | with_reducible exact HB.out.drew.c44 | (have hp9 : w.heap.size + 2 ≤ w.heap.size + 1 + 1 := Nat.le_refl _; with_reducible exact ((HB7.out.put2 hp9 0 _).put2 hp9 1 _).c44)) (first
    | (go_at_call 91; refine (markSide_is _ _ _ _ _ _ _ _ (by first | exact HM.out | exact HN.out)).mono ?_; rintro e w9 ⟨rfl, hb9⟩; have HB9 := Lib.hid (Vars.next (by first | with_reducible exact HB9.out | with_reducible exact HB.out.drew) hb9); have HB7 := Lib.hid (Vars.first2 HB9.out); obtain ⟨j0, j1⟩ := HB9.out.c2 (w.heap.size + 1 + 1) 2 rfl rfl; have j2 := HB9.out.frozen (w.heap.size + 1 + 1) 2 0 rfl rfl; have j3 := HB9.out.frozen (w.heap.size + 1 + 1) 2 1 rfl rfl) | fail)
  all_goals
    go_wp2
    refine bodyPost_ret (v := MkV m n) (by simp [results, Tryz.results131, go_sem, j0, j1]) rfl ?_
    exact ⟨rfl, HB9.out.set20 (by omega) _ _⟩
theorem oneLine_any (a b c d : Int) (w : World) :
    Calls Tryz.prog 132 #[SegV a b c d] w fun e w' => e = .returned (.int .i64 (if a = c ∧ b = d then 1 else 3)) ∧ Below w.heap.size w w' := by
  have HB := Lib.hid (Vars.of1 w (SegC a b c d) 123)
  by_cases h1 : a = c
  · subst h1
    by_cases h2 : b = d
    · subst h2
      go_enter Tryz.func132, Tryz.ntmps132
      go_wp2
      go_ret
      exact ⟨by simp, HB.out.1⟩
    · have HE : Hid ((if a = a ∧ b = d then (1 : Int) else 3) = 3) := Lib.hid (if_neg (by omega))
      go_enter Tryz.func132, Tryz.ntmps132
      go_wp2
      go_ret
      exact ⟨by simp, HB.out.1⟩
  · go_enter Tryz.func132, Tryz.ntmps132
    go_wp2
    go_ret
    exact ⟨by simp, HB.out.1⟩
/-- How two segments meet, by marks. -/
def markW (m n u v : Int) : Int := if m = n ∨ u = v then 0 else if m = 48 ∨ n = 48 ∨ u = 48 ∨ v = 48 then 1 else 2
theorem markW_eq {f g u v : Int} (hf : f = 1 ∨ f = 0 ∨ f = -1) (hg : g = 1 ∨ g = 0 ∨ g = -1) (hu : u = 1 ∨ u = 0 ∨ u = -1) (hv : v = 1 ∨ v = 0 ∨ v = -1) : markW (runeV f) (runeV g) (runeV u) (runeV v) = markV f g u v := by
  rcases hf with rfl | rfl | rfl <;> rcases hg with rfl | rfl | rfl <;> rcases hu with rfl | rfl | rfl <;> rcases hv with rfl | rfl | rfl <;> decide
set_option maxRecDepth 100000 in
theorem byMarks_any (m n u v : Int) (w : World) :
    Calls Tryz.prog 133 #[MkV m n, MkV u v] w fun e w' => e = .returned (.int .i64 (markW m n u v)) ∧ Below w.heap.size w w' := by
  have HB := Lib.hid (Vars.of2 w (MkC m n) (MkC u v) 175 175)
  by_cases h1 : m = n
  · have HE : Hid (markW m n u v = 0) := Lib.hid (by unfold markW; rw [if_pos (.inl h1)])
    subst h1
    go_enter Tryz.func133, Tryz.ntmps133
    go_wp2
    go_ret
    exact ⟨ret_int HE.out.symm, HB.out.1⟩
  · by_cases h2 : u = v
    · have HE : Hid (markW m n u v = 0) := Lib.hid (by unfold markW; rw [if_pos (.inr h2)])
      subst h2
      go_enter Tryz.func133, Tryz.ntmps133
      go_wp2
      go_ret
      exact ⟨ret_int HE.out.symm, HB.out.1⟩
    · have HE : Hid (markW m n u v = if m = 48 ∨ n = 48 ∨ u = 48 ∨ v = 48 then 1 else 2) := Lib.hid (by unfold markW; rw [if_neg (by omega)])
      have b1 : (m == n) = false := by simpa using h1
      have b2 : (u == v) = false := by simpa using h2
      have i0 : ∀ w : World, (Instr.index 204 (.agg #[.int .i32 m, .int .i32 n, .int .i32 u, .int .i32 v]) (.int .i64 0)).run Tryz.prog w = .ok (.int .i32 m) w := fun _ => by kernel_rfl
      have i1 : ∀ w : World, (Instr.index 204 (.agg #[.int .i32 m, .int .i32 n, .int .i32 u, .int .i32 v]) (.int .i64 1)).run Tryz.prog w = .ok (.int .i32 n) w := fun _ => by kernel_rfl
      have i2 : ∀ w : World, (Instr.index 204 (.agg #[.int .i32 m, .int .i32 n, .int .i32 u, .int .i32 v]) (.int .i64 2)).run Tryz.prog w = .ok (.int .i32 u) w := fun _ => by kernel_rfl
      have i3 : ∀ w : World, (Instr.index 204 (.agg #[.int .i32 m, .int .i32 n, .int .i32 u, .int .i32 v]) (.int .i64 3)).run Tryz.prog w = .ok (.int .i32 v) w := fun _ => by kernel_rfl
      go_enter Tryz.func133, Tryz.ntmps133
      go_wp2
      go_loopg [6, 28] 4 (fun g s6 i wr => ∃ k : Nat, k + g = 4 ∧ i = .int .i64 k ∧ (∃ z : Value, s6 = z) ∧ Hid ((1 ≤ k → ¬ m = 48) ∧ (2 ≤ k → ¬ n = 48) ∧ (3 ≤ k → ¬ u = 48) ∧ (4 ≤ k → ¬ v = 48)) ∧ Below w.heap.size w wr)
      case atStart => exact ⟨0, by omega, rfl, ⟨_, rfl⟩, Lib.hid (by omega), HB.out.1⟩
      case round =>
        obtain ⟨k, hkg, rfl, ⟨z, rfl⟩, HI, hb⟩ := hrel
        rcases (by omega : k = 0 ∨ k = 1 ∨ k = 2 ∨ k = 3 ∨ k = 4) with rfl | rfl | rfl | rfl | rfl
        · obtain rfl : gk = 4 := by omega
          by_cases h : m = 48
          · have HF : Hid (markW m n u v = 1) := Lib.hid (by rw [HE.out, if_pos (by omega)])
            clear HE HI
            subst h
            go_wp2
            go_ret
            exact ⟨ret_int HF.out.symm, hb⟩
          · go_wp2
            go_roundg 3
            case measure => omega
            case rel => exact ⟨1, by omega, by go_num, ⟨_, rfl⟩, Lib.hid (by omega), hb⟩
        · obtain rfl : gk = 3 := by omega
          by_cases h : n = 48
          · have HF : Hid (markW m n u v = 1) := Lib.hid (by rw [HE.out, if_pos (by omega)])
            clear HE HI
            subst h
            go_wp2
            go_ret
            exact ⟨ret_int HF.out.symm, hb⟩
          · have hi := HI.out.1 (by omega)
            go_wp2
            go_roundg 2
            case measure => omega
            case rel => exact ⟨2, by omega, by go_num, ⟨_, rfl⟩, Lib.hid (by omega), hb⟩
        · obtain rfl : gk = 2 := by omega
          by_cases h : u = 48
          · have HF : Hid (markW m n u v = 1) := Lib.hid (by rw [HE.out, if_pos (by omega)])
            clear HE HI
            subst h
            go_wp2
            go_ret
            exact ⟨ret_int HF.out.symm, hb⟩
          · have hi := HI.out.1 (by omega)
            have hj := HI.out.2.1 (by omega)
            go_wp2
            go_roundg 1
            case measure => omega
            case rel => exact ⟨3, by omega, by go_num, ⟨_, rfl⟩, Lib.hid (by omega), hb⟩
        · obtain rfl : gk = 1 := by omega
          by_cases h : v = 48
          · have HF : Hid (markW m n u v = 1) := Lib.hid (by rw [HE.out, if_pos (by omega)])
            clear HE HI
            subst h
            go_wp2
            go_ret
            exact ⟨ret_int HF.out.symm, hb⟩
          · have hi := HI.out.1 (by omega)
            have hj := HI.out.2.1 (by omega)
            have hk := HI.out.2.2.1 (by omega)
            go_wp2
            go_roundg 0
            case measure => omega
            case rel => exact ⟨4, by omega, by go_num, ⟨_, rfl⟩, Lib.hid (by omega), hb⟩
        · obtain rfl : gk = 0 := by omega
          have HF : Hid (markW m n u v = 2) := Lib.hid (by
            have h0 := HI.out.1 (by omega)
            have h1 := HI.out.2.1 (by omega)
            have h2 := HI.out.2.2.1 (by omega)
            have h3 := HI.out.2.2.2 (by omega)
            rw [HE.out, if_neg (by omega)])
          clear HE HI
          go_wp2
          go_ret
          exact ⟨ret_int HF.out.symm, hb⟩
end Go.Proofs.YtbnjaaegbmhopaaGreatDoor
end
section
/- Segments: how two segments meet, in package impl. -/
namespace Go.Proofs.YtbnjaaegbmhopaaGreatDoor
open Go.ChangeShapes Go.WideShapes Go.ChangeAt Go.RowKit
set_option linter.unusedVariables false

/-- Two pairs of marks are compared. -/
theorem eqMk (m n u v : Int) (w : World) : Sem.run Tryz.prog (Op.equalIn 10000 175 (Value.agg #[Value.int IntKind.i32 m, Value.int IntKind.i32 n]) (Value.agg #[Value.int IntKind.i32 u, Value.int IntKind.i32 v])) w = .ok (m == u && n == v) w := by
  have hc : Tryz.prog.cellsOf 21 = 1 := by kernel_rfl
  obtain ⟨i, hi⟩ : ∃ i, Tryz.prog.info? 21 = some i := Option.isSome_iff_exists.1 (by kernel_rfl)
  have p0 (x y : Int) : (part 21 #[Value.int IntKind.i32 x, Value.int IntKind.i32 y] (0 * 1)).run Tryz.prog w = .ok (.int .i32 x) w := by kernel_rfl
  have p1 (x y : Int) : (part 21 #[Value.int IntKind.i32 x, Value.int IntKind.i32 y] (1 * 1)).run Tryz.prog w = .ok (.int .i32 y) w := by kernel_rfl
  rw [run_equalIn_array w 9999 _ _ Tryz.underlying175 hi, hc, show List.range 2 = [0, 1] from rfl]
  simp only [Op.eqItems, Sem.run_bind, p0, Result.andThen_ok]
  rw [run_equalIn_int w 9998 _ _ _ _ _ Tryz.underlying21]
  cases h : (m == u)
  · simp
  · rw [Result.andThen_ok]
    simp [p1]
    rw [run_equalIn_int w 9998 _ _ _ _ _ Tryz.underlying21]
    cases h : (n == v) <;> simp
theorem eqMk_is (m n u v : Int) (k : Bool) (h : (m == u && n == v) = k) (w : World) : Sem.run Tryz.prog (Op.equalIn 10000 175 (Value.agg #[Value.int IntKind.i32 m, Value.int IntKind.i32 n]) (Value.agg #[Value.int IntKind.i32 u, Value.int IntKind.i32 v])) w = .ok k w := by
  subst h; exact eqMk m n u v w
theorem rune_zero {a b c d x y : Int} : runeV (sideV a b c d x y) = 48 ↔ sideV a b c d x y = 0 := by
  rcases sides3 a b c d x y with h | h | h <;> rw [h] <;> decide
theorem ord_apart {a b c d p q r s : Int} : ordB (max (min a c) (min p r)) (max (min b d) (min q s)) (min (max a c) (max p r)) (min (max b d) (max q s)) = false ↔ Apart a b c d p q r s := by
  unfold Apart ordB
  rw [Bool.and_eq_false_iff, decide_eq_false_iff_not, decide_eq_false_iff_not, Int.not_le, Int.not_le]
theorem ord_meet {a b c d p q r s : Int} (h : ¬ Apart a b c d p q r s) : ordB (max (min a c) (min p r)) (max (min b d) (min q s)) (min (max a c) (max p r)) (min (max b d) (max q s)) = true := by
  cases h' : ordB (max (min a c) (min p r)) (max (min b d) (min q s)) (min (max a c) (max p r)) (min (max b d) (max q s))
  · exact absurd (ord_apart.1 h') h
  · rfl
/-- How two segments meet, by the marks of their ends. -/
theorem how_marks {a b c d p q r s m n u v : Int} (hs : isS a b c d = true) (ht : isS p q r s = true) (hx : ¬ Apart a b c d p q r s)
    (hm : runeV (sideV a b c d p q) = m) (hn : runeV (sideV a b c d r s) = n) (hu : runeV (sideV p q r s a b) = u) (hv : runeV (sideV p q r s c d) = v) :
    howV a b c d p q r s = if m = 48 ∧ n = 48 then (if Spot a b c d p q r s then 1 else 3) else markW m n u v := by
  unfold howV
  rw [if_pos ⟨hs, ht⟩, if_neg hx, ← hm, ← hn, ← hu, ← hv, markW_eq (sides3 _ _ _ _ _ _) (sides3 _ _ _ _ _ _) (sides3 _ _ _ _ _ _) (sides3 _ _ _ _ _ _)]
  simp only [rune_zero]
theorem oneLine_is (a b c d z : Int) (w : World) (h : (if a = c ∧ b = d then 1 else 3) = z) :
    Calls Tryz.prog 132 #[SegV a b c d] w fun e w' => e = .returned (.int .i64 z) ∧ Below w.heap.size w w' := by
  subst h; exact oneLine_any a b c d w
theorem markEnds_is (a b c d p q r s m n : Int) (w : World) (hm : runeV (sideV a b c d p q) = m) (hn : runeV (sideV a b c d r s) = n) :
    Calls Tryz.prog 131 #[SegV a b c d, SegV p q r s] w fun e w' => e = .returned (MkV m n) ∧ Below w.heap.size w w' := by
  subst hm hn; exact markEnds_any a b c d p q r s w
theorem howMeet_no (a b c d p q r s : Int) (w : World) (h : ¬ (isS a b c d = true ∧ isS p q r s = true)) :
    Calls Tryz.prog 95 #[SegV a b c d, SegV p q r s] w fun e w' => e = .returned (.int .i64 (howV a b c d p q r s)) ∧ Below w.heap.size w w' := by
  have HE := Lib.hid (how_no h)
  have HB := Lib.hid (Vars.of2 w (SegC a b c d) (SegC p q r s) 78 78)
  go_enter Tryz.func95, Tryz.ntmps95
  cases hs : isS a b c d
  · go_wp2_with fail
    refine (boxS_no a b c d _ hs).mono ?_
    rintro e w1 ⟨rfl, hb1⟩
    have HB1 := Lib.hid ((HB.out.next hb1).al (.cells NoC 125))
    clear hb1 HB
    obtain ⟨k0, k1, k2, k3, k4, k5, k6, k7⟩ := HB1.out.c44
    go_wp2_with fail
    cases ht : isS p q r s
    · refine (boxS_no p q r s _ ht).mono ?_
      rintro e w2 ⟨rfl, hb2⟩
      have HB2 := Lib.hid ((HB1.out.next hb2).al (.cells NoC 125))
      clear hb2
      go_wp2
      go_ret
      exact ⟨ret_int HE.out.symm, HB2.out.1⟩
    · refine (boxS_yes p q r s _ ht).mono ?_
      rintro e w2 ⟨rfl, hb2⟩
      have HB2 := Lib.hid ((HB1.out.next hb2).al (.cells (BoxedC p q r s) 125))
      clear hb2
      go_wp2
      go_ret
      exact ⟨ret_int HE.out.symm, HB2.out.1⟩
  · have ht : isS p q r s = false := by cases ht : isS p q r s with
      | false => rfl
      | true => exact absurd ⟨hs, ht⟩ h
    go_wp2_with fail
    refine (boxS_yes a b c d _ hs).mono ?_
    rintro e w1 ⟨rfl, hb1⟩
    have HB1 := Lib.hid ((HB.out.next hb1).al (.cells (BoxedC a b c d) 125))
    clear hb1 HB
    obtain ⟨k0, k1, k2, k3, k4, k5, k6, k7⟩ := HB1.out.c44
    go_wp2_with fail
    refine (boxS_no p q r s _ ht).mono ?_
    rintro e w2 ⟨rfl, hb2⟩
    have HB2 := Lib.hid ((HB1.out.next hb2).al (.cells NoC 125))
    clear hb2
    go_wp2
    go_ret
    exact ⟨ret_int HE.out.symm, HB2.out.1⟩
set_option maxHeartbeats 4000000 in
theorem howMeet_yes (a b c d p q r s : Int) (w : World) (hs : isS a b c d = true) (ht : isS p q r s = true) :
    Calls Tryz.prog 95 #[SegV a b c d, SegV p q r s] w fun e w' => e = .returned (.int .i64 (howV a b c d p q r s)) ∧ Below w.heap.size w w' := by
  have HB := Lib.hid (Vars.of2 w (SegC a b c d) (SegC p q r s) 78 78)
  go_enter Tryz.func95, Tryz.ntmps95
  go_wp2_with fail
  refine (boxS_yes a b c d _ hs).mono ?_
  rintro e w1 ⟨rfl, hb1⟩
  have HB1 := Lib.hid ((HB.out.next hb1).al (.cells (BoxedC a b c d) 125))
  have H51 := Lib.hid (Vars.of1 w1 (BoxedC a b c d) 125)
  clear hb1 HB
  obtain ⟨k0, k1, k2, k3, k4, k5, k6, k7⟩ := HB1.out.c44
  go_wp2_with fail
  refine (boxS_yes p q r s _ ht).mono ?_
  rintro e w2 ⟨rfl, hb2⟩
  have HB2 := Lib.hid ((HB1.out.next hb2).al (.cells (BoxedC p q r s) 125))
  have H52 := Lib.hid ((H51.out.next hb2).al (.cells (BoxedC p q r s) 125))
  have H72 := Lib.hid (Vars.of1 w2 (BoxedC p q r s) 125)
  clear hb2 HB1 H51 k0 k1 k2 k3 k4 k5 k6 k7
  obtain ⟨k0, k1, k2, k3, k4, k5, k6, k7⟩ := H52.out.c8 w1.heap.size 0 rfl rfl
  go_wp2_with fail
  refine (share_any _ _ _ _ _ _ _ _ _).mono ?_
  rintro e w3 ⟨rfl, hb3⟩
  by_cases hx : Apart a b c d p q r s
  · have HE := Lib.hid (how_apart hx)
    have HN := Lib.hid (ord_apart.2 hx)
    obtain ⟨lx, hlx⟩ : ∃ z, max (min a c) (min p r) = z := ⟨_, rfl⟩
    obtain ⟨ly, hly⟩ : ∃ z, max (min b d) (min q s) = z := ⟨_, rfl⟩
    obtain ⟨hx', hhx⟩ : ∃ z, min (max a c) (max p r) = z := ⟨_, rfl⟩
    obtain ⟨hy', hhy⟩ : ∃ z, min (max b d) (max q s) = z := ⟨_, rfl⟩
    rw [hlx, hly, hhx, hhy] at HN ⊢
    clear hlx hly hhx hhy hx
    have HB3 := Lib.hid ((HB2.out.next hb3).al (.cells (SegC lx ly hx' hy') 123))
    have H93 := Lib.hid (Vars.of1 w3 (SegC lx ly hx' hy') 123)
    clear hb3 HB2 H52 H72 k0 k1 k2 k3 k4 k5 k6 k7 hs ht
    obtain ⟨k0, k1, k2, k3⟩ := H93.out.c40
    go_wp2_with fail
    refine (ord_is _ _ _ _ false _ HN.out).mono ?_
    rintro e w4 ⟨rfl, hb4⟩
    have HB4 := Lib.hid (HB3.out.next hb4)
    clear hb4
    go_wp2
    go_ret
    exact ⟨ret_int HE.out.symm, HB4.out.1⟩
  · have HN := Lib.hid (ord_meet hx)
    obtain ⟨lx, hlx⟩ : ∃ z, max (min a c) (min p r) = z := ⟨_, rfl⟩
    obtain ⟨ly, hly⟩ : ∃ z, max (min b d) (min q s) = z := ⟨_, rfl⟩
    obtain ⟨hx', hhx⟩ : ∃ z, min (max a c) (max p r) = z := ⟨_, rfl⟩
    obtain ⟨hy', hhy⟩ : ∃ z, min (max b d) (max q s) = z := ⟨_, rfl⟩
    have HSp : Hid (Spot a b c d p q r s ↔ lx = hx' ∧ ly = hy') := Lib.hid (by unfold Spot; rw [hlx, hly, hhx, hhy])
    rw [hlx, hly, hhx, hhy] at HN ⊢
    clear hlx hly hhx hhy
    have HB3' := Lib.hid ((HB2.out.next hb3).al (.cells (SegC lx ly hx' hy') 123))
    have H53' := Lib.hid ((H52.out.next hb3).al (.cells (SegC lx ly hx' hy') 123))
    have H73' := Lib.hid ((H72.out.next hb3).al (.cells (SegC lx ly hx' hy') 123))
    have H93' := Lib.hid (Vars.of1 w3 (SegC lx ly hx' hy') 123)
    clear hb3 HB2 H52 H72 k0 k1 k2 k3 k4 k5 k6 k7
    obtain ⟨k0, k1, k2, k3⟩ := H93'.out.c40
    go_wp2_with fail
    refine (ord_is _ _ _ _ true _ HN.out).mono ?_
    rintro e wo ⟨rfl, hbo⟩
    have HB3 := Lib.hid (HB3'.out.next hbo)
    have H53 := Lib.hid (H53'.out.next hbo)
    have H73 := Lib.hid (H73'.out.next hbo)
    have H93 := Lib.hid (H93'.out.next hbo)
    clear hbo HB3' H53' H73' H93' k0 k1 k2 k3
    obtain ⟨m, hm⟩ : ∃ m, runeV (sideV a b c d p q) = m := ⟨_, rfl⟩
    obtain ⟨n, hn⟩ : ∃ m, runeV (sideV a b c d r s) = m := ⟨_, rfl⟩
    obtain ⟨u, hu⟩ : ∃ m, runeV (sideV p q r s a b) = m := ⟨_, rfl⟩
    obtain ⟨v, hv⟩ : ∃ m, runeV (sideV p q r s c d) = m := ⟨_, rfl⟩
    have HE := Lib.hid (how_marks hs ht hx hm hn hu hv)
    have HM := Lib.hid hm
    have HN := Lib.hid hn
    have HU := Lib.hid hu
    have HV := Lib.hid hv
    clear hm hn hu hv hs ht hx
    obtain ⟨k0, k1, k2, k3, k4, k5, k6, k7⟩ := H53.out.c8 w1.heap.size 0 rfl rfl
    obtain ⟨j0, j1, j2, j3, j4, j5, j6, j7⟩ := H73.out.c8 w2.heap.size 0 rfl rfl
    go_wp2_with fail
    refine (markEnds_is a b c d p q r s m n _ HM.out HN.out).mono ?_
    rintro e w4 ⟨rfl, hb4⟩
    have HB4 := Lib.hid ((HB3.out.next hb4).al (.cells (MkC m n) 175))
    have H54 := Lib.hid ((H53.out.next hb4).al (.cells (MkC m n) 175))
    have H74 := Lib.hid ((H73.out.next hb4).al (.cells (MkC m n) 175))
    have H94 := Lib.hid ((H93.out.next hb4).al (.cells (MkC m n) 175))
    have HC4 := Lib.hid (Vars.of1 w4 (MkC m n) 175)
    clear hb4 HB3 H53 H73 H93 k0 k1 k2 k3 k4 k5 k6 k7 j0 j1 j2 j3 j4 j5 j6 j7
    by_cases hmn : m = 48 ∧ n = 48
    · obtain ⟨rfl, rfl⟩ := hmn
      have HF : Hid ((if lx = hx' ∧ ly = hy' then 1 else 3) = howV a b c d p q r s) := Lib.hid (by rw [HE.out.trans (if_pos ⟨rfl, rfl⟩)]; simp [HSp.out])
      clear HE
      have em := eqMk_is 48 48 48 48 true (by decide)
      obtain ⟨k0, k1, k2, k3⟩ := H94.out.c40
      go_wp2_with fail
      refine (oneLine_is _ _ _ _ _ _ HF.out).mono ?_
      rintro e w5 ⟨rfl, hb5⟩
      have HB5 := Lib.hid (HB4.out.next hb5)
      clear hb5
      go_wp2
      go_ret
      exact ⟨rfl, HB5.out.1⟩
    · have HF : Hid (howV a b c d p q r s = markW m n u v) := Lib.hid (by rw [HE.out, if_neg hmn])
      clear HE
      have em := eqMk_is m n 48 48 false (by simp; omega)
      have HB5 := Lib.hid HB4.out.drew
      obtain ⟨k0, k1, k2, k3, k4, k5, k6, k7⟩ := H54.out.drew.c8 w1.heap.size 0 rfl rfl
      obtain ⟨j0, j1, j2, j3, j4, j5, j6, j7⟩ := H74.out.drew.c8 w2.heap.size 0 rfl rfl
      obtain ⟨i0, i1⟩ := HC4.out.drew.c20
      go_upto_region 11 with fail
      clear k4 k5 k6 k7 j4 j5 j6 j7
      go_region_held3 (fun w' => w'.cell? ⟨w1.heap.size, 0, none⟩ = some (.int .i64 a) ∧ w'.cell? ⟨w1.heap.size, 1, none⟩ = some (.int .i64 b) ∧ w'.cell? ⟨w1.heap.size, 2, none⟩ = some (.int .i64 c) ∧ w'.cell? ⟨w1.heap.size, 3, none⟩ = some (.int .i64 d) ∧ w'.cell? ⟨w2.heap.size, 0, none⟩ = some (.int .i64 p) ∧ w'.cell? ⟨w2.heap.size, 1, none⟩ = some (.int .i64 q) ∧ w'.cell? ⟨w2.heap.size, 2, none⟩ = some (.int .i64 r) ∧ w'.cell? ⟨w2.heap.size, 3, none⟩ = some (.int .i64 s) ∧ w'.cell? ⟨w4.heap.size, 0, none⟩ = some (.int .i32 m) ∧ w'.cell? ⟨w4.heap.size, 1, none⟩ = some (.int .i32 n)) (first | with_reducible exact ⟨k0, k1, k2, k3, j0, j1, j2, j3, i0, i1⟩) (first
        | (go_at_call 131; refine (markEnds_is _ _ _ _ _ _ _ _ _ _ _ HU.out HV.out).mono ?_; rintro e w9 ⟨rfl, hb9⟩; have HB9 := Lib.hid (HB5.out.next hb9); have H59 := Lib.hid (H54.out.drew.next hb9); have H79 := Lib.hid (H74.out.drew.next hb9); have HC9 := Lib.hid (HC4.out.drew.next hb9); obtain ⟨k0, k1, k2, k3, k4, k5, k6, k7⟩ := H59.out.c8 w1.heap.size 0 rfl rfl; obtain ⟨j0, j1, j2, j3, j4, j5, j6, j7⟩ := H79.out.c8 w2.heap.size 0 rfl rfl; obtain ⟨i0, i1⟩ := HC9.out.c20)
        | (go_at_call 133; refine (byMarks_any _ _ _ _ _).mono ?_; rintro e w8 ⟨rfl, hb8⟩; have HB8 := Lib.hid (HB9.out.next hb8); obtain ⟨k0, k1, k2, k3, k4, k5, k6, k7⟩ := (H59.out.next hb8).c8 w1.heap.size 0 rfl rfl; obtain ⟨j0, j1, j2, j3, j4, j5, j6, j7⟩ := (H79.out.next hb8).c8 w2.heap.size 0 rfl rfl; obtain ⟨i0, i1⟩ := (HC9.out.next hb8).c20) | fail)
      all_goals
        go_wp2
        go_ret
        exact ⟨ret_int HF.out.symm, HB8.out.1⟩
theorem howMeet_any (a b c d p q r s : Int) (w : World) :
    Calls Tryz.prog 95 #[SegV a b c d, SegV p q r s] w fun e w' => e = .returned (.int .i64 (howV a b c d p q r s)) ∧ Below w.heap.size w w' := by
  by_cases h : isS a b c d = true ∧ isS p q r s = true
  · exact howMeet_yes a b c d p q r s w h.1 h.2
  · exact howMeet_no a b c d p q r s w h
end Go.Proofs.YtbnjaaegbmhopaaGreatDoor
end
section
/- Segments: IsSegment and IsOn of the model. -/
namespace Go.Proofs.YtbnjaaegbmhopaaGreatDoor
open Go.ChangeShapes Go.WideShapes Go.ChangeAt Go.RowKit
set_option linter.unusedVariables false

theorem isS_no1 {a b c d : Int} (h : isP a b = false) : isS a b c d = false := by simp [isS, isP2, h]
theorem isS_no2 {a b c d : Int} (h : isP c d = false) : isS a b c d = false := by simp [isS, isP2, h]
theorem isS_yes {a b c d : Int} (h : isP a b = true) (h' : isP c d = true) : isS a b c d = !decide (a = c ∧ b = d) := by simp [isS, isP2, h, h']
theorem sIsSegment_any (a b c d : Int) (w : World) :
    Calls Tryz.prog 136 #[SegV a b c d] w fun e w' => e = .returned (.bool (isS a b c d)) ∧ Below w.heap.size w w' := by
  have HB := Lib.hid (Vars.of1 w (SegC a b c d) 78)
  go_enter Tryz.func136, Tryz.ntmps136
  go_wp2_with fail
  cases h1 : isP a b
  · have HE := Lib.hid (isS_no1 (c := c) (d := d) h1)
    refine (sIsPoint_is a b _ _ h1).mono ?_
    rintro e w1 ⟨rfl, hb1⟩
    have HB1 := Lib.hid (HB.out.next hb1)
    clear hb1
    go_wp2
    go_ret
    exact ⟨ret_eq HE.out.symm, HB1.out.1⟩
  · refine (sIsPoint_is a b _ _ h1).mono ?_
    rintro e w1 ⟨rfl, hb1⟩
    have HB1 := Lib.hid (HB.out.next hb1)
    clear hb1 HB
    obtain ⟨k0, k1, k2, k3⟩ := HB1.out.c40
    go_wp2_with fail
    cases h2 : isP c d
    · have HE := Lib.hid (isS_no2 (a := a) (b := b) h2)
      refine (sIsPoint_is c d _ _ h2).mono ?_
      rintro e w2 ⟨rfl, hb2⟩
      have HB2 := Lib.hid (HB1.out.next hb2)
      clear hb2
      go_wp2
      go_ret
      exact ⟨ret_eq HE.out.symm, HB2.out.1⟩
    · have HE := Lib.hid (isS_yes h1 h2)
      refine (sIsPoint_is c d _ _ h2).mono ?_
      rintro e w2 ⟨rfl, hb2⟩
      have HB2 := Lib.hid (HB1.out.next hb2)
      clear hb2 HB1 k0 k1 k2 k3 h1 h2
      obtain ⟨k0, k1, k2, k3⟩ := HB2.out.c40
      by_cases hac : a = c
      · by_cases hbd : b = d
        · have HF : Hid (isS a b c d = false) := Lib.hid (by rw [HE.out]; simp [hac, hbd])
          clear HE
          subst hac hbd
          go_wp2
          go_ret
          exact ⟨ret_eq HF.out.symm, HB2.out.1⟩
        · have HF : Hid (isS a b c d = true) := Lib.hid (by rw [HE.out]; simp [hbd])
          clear HE
          subst hac
          go_wp2
          go_ret
          exact ⟨ret_eq HF.out.symm, HB2.out.1⟩
      · have HF : Hid (isS a b c d = true) := Lib.hid (by rw [HE.out]; simp [hac])
        clear HE
        go_wp2
        go_ret
        exact ⟨ret_eq HF.out.symm, HB2.out.1⟩
theorem sIsSegment_is (a b c d : Int) (k : Bool) (w : World) (h : isS a b c d = k) :
    Calls Tryz.prog 136 #[SegV a b c d] w fun e w' => e = .returned (.bool k) ∧ Below w.heap.size w w' := by
  subst h; exact sIsSegment_any a b c d w
theorem onV_p {a b c d x y : Int} (h : isP x y = false) : onV a b c d x y = false := by
  unfold onV
  cases hs : isS a b c d
  · rfl
  · rw [Bool.true_and]
    refine decide_eq_false fun ho => ?_
    obtain ⟨h0, h1, h2, h3⟩ := on_bd hs ho
    rw [isP_of h0 h1 h2 h3] at h; cases h
theorem on_z {a b c d x y z : Int} (hz : (c - a) * (y - b) - (d - b) * (x - a) = z) (h : z ≠ 0) : onV a b c d x y = false := by
  unfold onV
  rw [decide_eq_false (fun ho : On a b c d x y => h (by rw [← hz]; exact ho.2.2.2.2)), Bool.and_false]
theorem on_xn {a b c d x y : Int} (h : inB x (extV false a c) (extV true a c) = false) : onV a b c d x y = false := by
  unfold onV
  rw [decide_eq_false (fun ho : On a b c d x y => by rw [ext_min, ext_max, inB_yes ho.1 ho.2.1] at h; cases h), Bool.and_false]
theorem on_yn {a b c d x y : Int} (h : inB y (extV false b d) (extV true b d) = false) : onV a b c d x y = false := by
  unfold onV
  rw [decide_eq_false (fun ho : On a b c d x y => by rw [ext_min, ext_max, inB_yes ho.2.2.1 ho.2.2.2.1] at h; cases h), Bool.and_false]
theorem on_all {a b c d x y : Int} (hs : isS a b c d = true) (hz : (c - a) * (y - b) - (d - b) * (x - a) = 0) (h : inB x (extV false a c) (extV true a c) = true) (h' : inB y (extV false b d) (extV true b d) = true) : onV a b c d x y = true := by
  rw [ext_min, ext_max] at h h'
  obtain ⟨x0, x1⟩ := inB_bd h
  obtain ⟨y0, y1⟩ := inB_bd h'
  exact onV_iff.2 ⟨hs, x0, x1, y0, y1, hz⟩
end Go.Proofs.YtbnjaaegbmhopaaGreatDoor
end
section
/- Segments: IsOn of the model. -/
namespace Go.Proofs.YtbnjaaegbmhopaaGreatDoor
open Go.ChangeShapes Go.WideShapes Go.ChangeAt Go.RowKit
set_option linter.unusedVariables false

set_option maxHeartbeats 4000000 in
theorem sIsOn_any (a b c d x y : Int) (w : World) :
    Calls Tryz.prog 157 #[SegV a b c d, PtV x y] w fun e w' => e = .returned (.bool (onV a b c d x y)) ∧ Below w.heap.size w w' := by
  have HB := Lib.hid (Vars.of2 w (SegC a b c d) (PtC x y) 78 33)
  go_enter Tryz.func157, Tryz.ntmps157
  go_upto_region 1 with fail
  generalize ((w.alloc (.cells (SegC a b c d) 78)).alloc (.cells (PtC x y) 33)) = wz at HB ⊢
  have HB := Lib.hid HB.out.drew
  refine wp_region_held_drew (S := fun w' => w'.cell? ⟨w.heap.size, 0, none⟩ = some (.int .i64 a) ∧ w'.cell? ⟨w.heap.size, 1, none⟩ = some (.int .i64 b) ∧ w'.cell? ⟨w.heap.size, 2, none⟩ = some (.int .i64 c) ∧ w'.cell? ⟨w.heap.size, 3, none⟩ = some (.int .i64 d) ∧ w'.cell? ⟨w.heap.size + 1, 0, none⟩ = some (.int .i64 x) ∧ w'.cell? ⟨w.heap.size + 1, 1, none⟩ = some (.int .i64 y)) (by kernel_rfl) HB.out.c42p (fun hHeld => ?_)
  refine to_lin (T := [(0, 6, 4), (1, 7, 32), (2, 8, 64), (4, 9, 136), (12, 10, 384), (20, 11, 640), (48, 12, 1024), (64, 13, 2052), (192, 14, 6144), (64, 15, 2052), (576, 16, 18432), (64, 17, 2056), (3392, 18, 108544), (4160, 19, 133120), (8256, 20, 264192), (20480, 21, 524288), (32768, 22, 1048584), (98304, 23, 3145728), (32768, 24, 1048580), (294912, 25, 9437184), (557056, 26, 17825792), (32768, 27, 1048580), (2129920, 28, 68157440), (4227072, 29, 135266304), (9469952, 30, 303038464), (32768, 31, 1048580), (33587200, 32, 1074790400), (67141632, 33, 2148532224), (32768, 34, 1048580), (268468224, 35, 8590983168), (536903680, 36, 17180917760), (1224769536, 37, 38655754240), (2164424704, 38, 69261590528), (4295000064, 39, 137440002048), (12884901888, 40, 274877906944), (17179869184, 41, 549755813896), (51539607552, 42, 1649267441664), (17179869184, 43, 549755813892), (154618822656, 44, 4947802324992), (292057776128, 45, 9345848836096), (17179869184, 46, 549755813892), (1116691496960, 47, 35734127902720), (2216203124736, 48, 70918499991552), (4964982194176, 49, 158879430213632), (17179869184, 50, 549755813892), (17609365913600, 51, 563499709235200), (35201551958016, 52, 1126449662656512), (17179869184, 53, 549755813892), (140754668224512, 54, 4504149383184384), (281492156579840, 55, 9007749010554880), (642131970490368, 56, 20266748078981120), (1134781899210752, 57, 36313020774744064), (2251816993554432, 58, 72058143793741824), (9007199254740991, 5, 144115188075855872)]) (n := 54) [(0, true), (1, false), (2, true), (3, true), (4, false), (5, true), (6, true), (7, true), (8, true), (9, true), (10, true), (11, true), (12, false), (13, true), (14, true), (15, true), (16, true), (17, true), (18, true), (19, true), (20, true), (21, true), (22, true), (23, true), (25, true), (26, true), (27, true), (28, true), (29, true), (30, true), (24, false), (31, false), (32, false), (33, true), (34, true), (35, true), (36, true), (37, true), (38, true), (39, true), (40, true), (41, true), (42, true), (44, true), (45, true), (46, true), (47, true), (48, true), (49, true), (43, false), (50, false), (51, false), (52, true), (53, true)] ⟨by kernel_rfl, by kernel_rfl, by kernel_rfl⟩ (by kernel_rfl) (fun hTag => ?_)
  (refine lin_on (v := ?_) rfl (fun _ _ _ h => h) (by rfl) ?_ (by assumption) ?_; rotate_left; (· (intro wq hSw; go_simp; try with_reducible rfl)); try simp only [Act.put, List.setIfInBounds_toArray, List.set_cons_zero, List.set_cons_succ])
  refine lin_call rfl (by rfl) (fun K hK => ?_)
  go_simp
  go_at_call 136
  cases hs : isS a b c d
  · have HE := Lib.hid (onV_no (x := x) (y := y) hs)
    refine (sIsSegment_is _ _ _ _ _ _ hs).mono ?_
    rintro e w9 ⟨rfl, hb9⟩
    have HB := Lib.hid (HB.out.next hb9)
    clear hb9
    go_wp2_with fail
    refine hK.out _ _ ?_ (fun hHeld => ?_)
    · exact HB.out.c42p
    clear hK K
    try simp only [Act.put, List.setIfInBounds_toArray, List.set_cons_zero, List.set_cons_succ]
    (refine lin_on (v := ?_) rfl (fun _ _ _ h => h) (by rfl) ?_ (by assumption) ?_; rotate_left; (· (intro wq hSw; go_simp; try with_reducible rfl)); try simp only [Act.put, List.setIfInBounds_toArray, List.set_cons_zero, List.set_cons_succ])
    (refine lin_off rfl (fun _ _ _ h => h) (by rfl) (by assumption) ?_; try simp only [Act.put, List.setIfInBounds_toArray, List.set_cons_zero, List.set_cons_succ])
    (refine lin_skip rfl (by rfl) (by assumption) ?_; try simp only [Act.put, List.setIfInBounds_toArray, List.set_cons_zero, List.set_cons_succ])
    iterate 2 (refine lin_on (v := ?_) rfl (fun _ _ _ h => h) (by rfl) ?_ (by assumption) ?_; rotate_left; (· (intro wq hSw; go_simp; try with_reducible rfl)); try simp only [Act.put, List.setIfInBounds_toArray, List.set_cons_zero, List.set_cons_succ])
    iterate 5 (refine lin_off rfl (fun _ _ _ h => h) (by rfl) (by assumption) ?_; try simp only [Act.put, List.setIfInBounds_toArray, List.set_cons_zero, List.set_cons_succ])
    (refine lin_skip rfl (by rfl) (by assumption) ?_; try simp only [Act.put, List.setIfInBounds_toArray, List.set_cons_zero, List.set_cons_succ])
    (refine lin_off rfl (fun _ _ _ h => h) (by rfl) (by assumption) ?_; try simp only [Act.put, List.setIfInBounds_toArray, List.set_cons_zero, List.set_cons_succ])
    iterate 2 (refine lin_on (v := ?_) rfl (fun _ _ _ h => h) (by rfl) ?_ (by assumption) ?_; rotate_left; (· (intro wq hSw; go_simp; try with_reducible rfl)); try simp only [Act.put, List.setIfInBounds_toArray, List.set_cons_zero, List.set_cons_succ])
    iterate 14 (refine lin_off rfl (fun _ _ _ h => h) (by rfl) (by assumption) ?_; try simp only [Act.put, List.setIfInBounds_toArray, List.set_cons_zero, List.set_cons_succ])
    (refine lin_skip rfl (by rfl) (by assumption) ?_; try simp only [Act.put, List.setIfInBounds_toArray, List.set_cons_zero, List.set_cons_succ])
    (refine lin_skip rfl (by rfl) (by assumption) ?_; try simp only [Act.put, List.setIfInBounds_toArray, List.set_cons_zero, List.set_cons_succ])
    (refine lin_skip rfl (by rfl) (by assumption) ?_; try simp only [Act.put, List.setIfInBounds_toArray, List.set_cons_zero, List.set_cons_succ])
    iterate 2 (refine lin_on (v := ?_) rfl (fun _ _ _ h => h) (by rfl) ?_ (by assumption) ?_; rotate_left; (· (intro wq hSw; go_simp; try with_reducible rfl)); try simp only [Act.put, List.setIfInBounds_toArray, List.set_cons_zero, List.set_cons_succ])
    iterate 14 (refine lin_off rfl (fun _ _ _ h => h) (by rfl) (by assumption) ?_; try simp only [Act.put, List.setIfInBounds_toArray, List.set_cons_zero, List.set_cons_succ])
    (refine lin_skip rfl (by rfl) (by assumption) ?_; try simp only [Act.put, List.setIfInBounds_toArray, List.set_cons_zero, List.set_cons_succ])
    (refine lin_skip rfl (by rfl) (by assumption) ?_; try simp only [Act.put, List.setIfInBounds_toArray, List.set_cons_zero, List.set_cons_succ])
    (refine lin_skip rfl (by rfl) (by assumption) ?_; try simp only [Act.put, List.setIfInBounds_toArray, List.set_cons_zero, List.set_cons_succ])
    iterate 2 (refine lin_on (v := ?_) rfl (fun _ _ _ h => h) (by rfl) ?_ (by assumption) ?_; rotate_left; (· (intro wq hSw; go_simp; try with_reducible rfl)); try simp only [Act.put, List.setIfInBounds_toArray, List.set_cons_zero, List.set_cons_succ])
    refine lin_done ?_
    go_wp2
    go_ret
    exact ⟨ret_eq HE.out.symm, HB.out.1⟩
  · refine (sIsSegment_is _ _ _ _ _ _ hs).mono ?_
    rintro e w9 ⟨rfl, hb9⟩
    have HB := Lib.hid (HB.out.next hb9)
    clear hb9
    go_wp2_with fail
    refine hK.out _ _ ?_ (fun hHeld => ?_)
    · exact HB.out.c42p
    clear hK K
    try simp only [Act.put, List.setIfInBounds_toArray, List.set_cons_zero, List.set_cons_succ]
    iterate 2 (refine lin_on (v := ?_) rfl (fun _ _ _ h => h) (by rfl) ?_ (by assumption) ?_; rotate_left; (· (intro wq hSw; go_simp; try with_reducible rfl)); try simp only [Act.put, List.setIfInBounds_toArray, List.set_cons_zero, List.set_cons_succ])
    refine lin_call rfl (by rfl) (fun K hK => ?_)
    go_simp
    go_at_call 103
    cases hp : isP x y
    · have HE := Lib.hid (onV_p (a := a) (b := b) (c := c) (d := d) hp)
      refine (sIsPoint_is _ _ _ _ hp).mono ?_
      rintro e w9 ⟨rfl, hb9⟩
      have HB := Lib.hid (HB.out.next hb9)
      clear hb9
      go_wp2_with fail
      refine hK.out _ _ ?_ (fun hHeld => ?_)
      · exact HB.out.c42p
      clear hK K
      try simp only [Act.put, List.setIfInBounds_toArray, List.set_cons_zero, List.set_cons_succ]
      iterate 2 (refine lin_on (v := ?_) rfl (fun _ _ _ h => h) (by rfl) ?_ (by assumption) ?_; rotate_left; (· (intro wq hSw; go_simp; try with_reducible rfl)); try simp only [Act.put, List.setIfInBounds_toArray, List.set_cons_zero, List.set_cons_succ])
      iterate 5 (refine lin_off rfl (fun _ _ _ h => h) (by rfl) (by assumption) ?_; try simp only [Act.put, List.setIfInBounds_toArray, List.set_cons_zero, List.set_cons_succ])
      (refine lin_skip rfl (by rfl) (by assumption) ?_; try simp only [Act.put, List.setIfInBounds_toArray, List.set_cons_zero, List.set_cons_succ])
      (refine lin_off rfl (fun _ _ _ h => h) (by rfl) (by assumption) ?_; try simp only [Act.put, List.setIfInBounds_toArray, List.set_cons_zero, List.set_cons_succ])
      iterate 2 (refine lin_on (v := ?_) rfl (fun _ _ _ h => h) (by rfl) ?_ (by assumption) ?_; rotate_left; (· (intro wq hSw; go_simp; try with_reducible rfl)); try simp only [Act.put, List.setIfInBounds_toArray, List.set_cons_zero, List.set_cons_succ])
      iterate 14 (refine lin_off rfl (fun _ _ _ h => h) (by rfl) (by assumption) ?_; try simp only [Act.put, List.setIfInBounds_toArray, List.set_cons_zero, List.set_cons_succ])
      (refine lin_skip rfl (by rfl) (by assumption) ?_; try simp only [Act.put, List.setIfInBounds_toArray, List.set_cons_zero, List.set_cons_succ])
      (refine lin_skip rfl (by rfl) (by assumption) ?_; try simp only [Act.put, List.setIfInBounds_toArray, List.set_cons_zero, List.set_cons_succ])
      (refine lin_skip rfl (by rfl) (by assumption) ?_; try simp only [Act.put, List.setIfInBounds_toArray, List.set_cons_zero, List.set_cons_succ])
      iterate 2 (refine lin_on (v := ?_) rfl (fun _ _ _ h => h) (by rfl) ?_ (by assumption) ?_; rotate_left; (· (intro wq hSw; go_simp; try with_reducible rfl)); try simp only [Act.put, List.setIfInBounds_toArray, List.set_cons_zero, List.set_cons_succ])
      iterate 14 (refine lin_off rfl (fun _ _ _ h => h) (by rfl) (by assumption) ?_; try simp only [Act.put, List.setIfInBounds_toArray, List.set_cons_zero, List.set_cons_succ])
      (refine lin_skip rfl (by rfl) (by assumption) ?_; try simp only [Act.put, List.setIfInBounds_toArray, List.set_cons_zero, List.set_cons_succ])
      (refine lin_skip rfl (by rfl) (by assumption) ?_; try simp only [Act.put, List.setIfInBounds_toArray, List.set_cons_zero, List.set_cons_succ])
      (refine lin_skip rfl (by rfl) (by assumption) ?_; try simp only [Act.put, List.setIfInBounds_toArray, List.set_cons_zero, List.set_cons_succ])
      iterate 2 (refine lin_on (v := ?_) rfl (fun _ _ _ h => h) (by rfl) ?_ (by assumption) ?_; rotate_left; (· (intro wq hSw; go_simp; try with_reducible rfl)); try simp only [Act.put, List.setIfInBounds_toArray, List.set_cons_zero, List.set_cons_succ])
      refine lin_done ?_
      go_wp2
      go_ret
      exact ⟨ret_eq HE.out.symm, HB.out.1⟩
    · refine (sIsPoint_is _ _ _ _ hp).mono ?_
      rintro e w9 ⟨rfl, hb9⟩
      have HB := Lib.hid (HB.out.next hb9)
      clear hb9
      go_wp2_with fail
      refine hK.out _ _ ?_ (fun hHeld => ?_)
      · exact HB.out.c42p
      clear hK K
      try simp only [Act.put, List.setIfInBounds_toArray, List.set_cons_zero, List.set_cons_succ]
      iterate 7 (refine lin_on (v := ?_) rfl (fun _ _ _ h => h) (by rfl) ?_ (by assumption) ?_; rotate_left; (· (intro wq hSw; go_simp; try with_reducible rfl)); try simp only [Act.put, List.setIfInBounds_toArray, List.set_cons_zero, List.set_cons_succ])
      refine lin_call rfl (by rfl) (fun K hK => ?_)
      go_simp
      go_at_call 158
      obtain ⟨z, hz⟩ : ∃ z, (c - a) * (y - b) - (d - b) * (x - a) = z := ⟨_, rfl⟩
      by_cases hz0 : z = 0
      · subst hz0
        refine (cross_is a b c d x y 0 _ (isS_at hs).1 (isS_at hs).2.1 (by have := isP_bd hp; omega) hz).mono ?_
        rintro e w9 ⟨rfl, hb9⟩
        have HB := Lib.hid (HB.out.next hb9)
        clear hb9
        go_wp2_with fail
        have HZ := Lib.hid hz
        clear hz
        refine hK.out _ _ ?_ (fun hHeld => ?_)
        · exact HB.out.c42p
        clear hK K
        try simp only [Act.put, List.setIfInBounds_toArray, List.set_cons_zero, List.set_cons_succ]
        iterate 17 (refine lin_on (v := ?_) rfl (fun _ _ _ h => h) (by rfl) ?_ (by assumption) ?_; rotate_left; (· (intro wq hSw; go_simp; try with_reducible rfl)); try simp only [Act.put, List.setIfInBounds_toArray, List.set_cons_zero, List.set_cons_succ])
        refine lin_call rfl (by rfl) (fun K hK => ?_)
        go_simp
        go_at_call 138
        refine (smin_any _ _ _).mono ?_
        rintro e w' ⟨rfl, rfl⟩
        go_wp2_with fail
        refine hK.out _ _ ?_ (fun hHeld => ?_)
        · exact hHeld
        clear hK K
        try simp only [Act.put, List.setIfInBounds_toArray, List.set_cons_zero, List.set_cons_succ]
        refine lin_call rfl (by rfl) (fun K hK => ?_)
        go_simp
        go_at_call 112
        refine (smax_any _ _ _).mono ?_
        rintro e w' ⟨rfl, rfl⟩
        go_wp2_with fail
        refine hK.out _ _ ?_ (fun hHeld => ?_)
        · exact hHeld
        clear hK K
        try simp only [Act.put, List.setIfInBounds_toArray, List.set_cons_zero, List.set_cons_succ]
        refine lin_call rfl (by rfl) (fun K hK => ?_)
        go_simp
        go_at_call 101
        cases hx : inB x (extV false a c) (extV true a c)
        · have HE := Lib.hid (on_xn (b := b) (d := d) (y := y) hx)
          refine (l1in_is _ _ _ _ _ hx).mono ?_
          rintro e w' ⟨rfl, rfl⟩
          go_wp2_with fail
          refine hK.out _ _ ?_ (fun hHeld => ?_)
          · exact hHeld
          clear hK K
          try simp only [Act.put, List.setIfInBounds_toArray, List.set_cons_zero, List.set_cons_succ]
          iterate 2 (refine lin_on (v := ?_) rfl (fun _ _ _ h => h) (by rfl) ?_ (by assumption) ?_; rotate_left; (· (intro wq hSw; go_simp; try with_reducible rfl)); try simp only [Act.put, List.setIfInBounds_toArray, List.set_cons_zero, List.set_cons_succ])
          iterate 14 (refine lin_off rfl (fun _ _ _ h => h) (by rfl) (by assumption) ?_; try simp only [Act.put, List.setIfInBounds_toArray, List.set_cons_zero, List.set_cons_succ])
          (refine lin_skip rfl (by rfl) (by assumption) ?_; try simp only [Act.put, List.setIfInBounds_toArray, List.set_cons_zero, List.set_cons_succ])
          (refine lin_skip rfl (by rfl) (by assumption) ?_; try simp only [Act.put, List.setIfInBounds_toArray, List.set_cons_zero, List.set_cons_succ])
          (refine lin_skip rfl (by rfl) (by assumption) ?_; try simp only [Act.put, List.setIfInBounds_toArray, List.set_cons_zero, List.set_cons_succ])
          iterate 2 (refine lin_on (v := ?_) rfl (fun _ _ _ h => h) (by rfl) ?_ (by assumption) ?_; rotate_left; (· (intro wq hSw; go_simp; try with_reducible rfl)); try simp only [Act.put, List.setIfInBounds_toArray, List.set_cons_zero, List.set_cons_succ])
          refine lin_done ?_
          go_wp2
          go_ret
          exact ⟨ret_eq HE.out.symm, HB.out.1⟩
        · refine (l1in_is _ _ _ _ _ hx).mono ?_
          rintro e w' ⟨rfl, rfl⟩
          go_wp2_with fail
          refine hK.out _ _ ?_ (fun hHeld => ?_)
          · exact hHeld
          clear hK K
          try simp only [Act.put, List.setIfInBounds_toArray, List.set_cons_zero, List.set_cons_succ]
          iterate 16 (refine lin_on (v := ?_) rfl (fun _ _ _ h => h) (by rfl) ?_ (by assumption) ?_; rotate_left; (· (intro wq hSw; go_simp; try with_reducible rfl)); try simp only [Act.put, List.setIfInBounds_toArray, List.set_cons_zero, List.set_cons_succ])
          refine lin_call rfl (by rfl) (fun K hK => ?_)
          go_simp
          go_at_call 138
          refine (smin_any _ _ _).mono ?_
          rintro e w' ⟨rfl, rfl⟩
          go_wp2_with fail
          refine hK.out _ _ ?_ (fun hHeld => ?_)
          · exact hHeld
          clear hK K
          try simp only [Act.put, List.setIfInBounds_toArray, List.set_cons_zero, List.set_cons_succ]
          refine lin_call rfl (by rfl) (fun K hK => ?_)
          go_simp
          go_at_call 112
          refine (smax_any _ _ _).mono ?_
          rintro e w' ⟨rfl, rfl⟩
          go_wp2_with fail
          refine hK.out _ _ ?_ (fun hHeld => ?_)
          · exact hHeld
          clear hK K
          try simp only [Act.put, List.setIfInBounds_toArray, List.set_cons_zero, List.set_cons_succ]
          refine lin_call rfl (by rfl) (fun K hK => ?_)
          go_simp
          go_at_call 101
          cases hy : inB y (extV false b d) (extV true b d)
          · have HE := Lib.hid (on_yn (a := a) (c := c) (x := x) hy)
            refine (l1in_is _ _ _ _ _ hy).mono ?_
            rintro e w' ⟨rfl, rfl⟩
            go_wp2_with fail
            refine hK.out _ _ ?_ (fun hHeld => ?_)
            · exact hHeld
            clear hK K
            try simp only [Act.put, List.setIfInBounds_toArray, List.set_cons_zero, List.set_cons_succ]
            iterate 2 (refine lin_on (v := ?_) rfl (fun _ _ _ h => h) (by rfl) ?_ (by assumption) ?_; rotate_left; (· (intro wq hSw; go_simp; try with_reducible rfl)); try simp only [Act.put, List.setIfInBounds_toArray, List.set_cons_zero, List.set_cons_succ])
            refine lin_done ?_
            go_wp2
            go_ret
            exact ⟨ret_eq HE.out.symm, HB.out.1⟩
          · have HE := Lib.hid (on_all hs HZ.out hx hy)
            refine (l1in_is _ _ _ _ _ hy).mono ?_
            rintro e w' ⟨rfl, rfl⟩
            go_wp2_with fail
            refine hK.out _ _ ?_ (fun hHeld => ?_)
            · exact hHeld
            clear hK K
            try simp only [Act.put, List.setIfInBounds_toArray, List.set_cons_zero, List.set_cons_succ]
            iterate 2 (refine lin_on (v := ?_) rfl (fun _ _ _ h => h) (by rfl) ?_ (by assumption) ?_; rotate_left; (· (intro wq hSw; go_simp; try with_reducible rfl)); try simp only [Act.put, List.setIfInBounds_toArray, List.set_cons_zero, List.set_cons_succ])
            refine lin_done ?_
            go_wp2
            go_ret
            exact ⟨ret_eq HE.out.symm, HB.out.1⟩
      · have HE := Lib.hid (on_z hz hz0)
        refine (cross_is a b c d x y z _ (isS_at hs).1 (isS_at hs).2.1 (by have := isP_bd hp; omega) hz).mono ?_
        rintro e w9 ⟨rfl, hb9⟩
        have HB := Lib.hid (HB.out.next hb9)
        clear hb9
        go_wp2_with fail
        clear hz
        have hzb : (z == 0) = false := by simpa using hz0
        refine hK.out _ _ ?_ (fun hHeld => ?_)
        · exact HB.out.c42p
        clear hK K
        try simp only [Act.put, List.setIfInBounds_toArray, List.set_cons_zero, List.set_cons_succ]
        iterate 3 (refine lin_on (v := ?_) rfl (fun _ _ _ h => h) (by rfl) ?_ (by assumption) ?_; rotate_left; (· (intro wq hSw; go_simp; try with_reducible rfl)); try simp only [Act.put, List.setIfInBounds_toArray, List.set_cons_zero, List.set_cons_succ])
        iterate 14 (refine lin_off rfl (fun _ _ _ h => h) (by rfl) (by assumption) ?_; try simp only [Act.put, List.setIfInBounds_toArray, List.set_cons_zero, List.set_cons_succ])
        (refine lin_skip rfl (by rfl) (by assumption) ?_; try simp only [Act.put, List.setIfInBounds_toArray, List.set_cons_zero, List.set_cons_succ])
        (refine lin_skip rfl (by rfl) (by assumption) ?_; try simp only [Act.put, List.setIfInBounds_toArray, List.set_cons_zero, List.set_cons_succ])
        (refine lin_skip rfl (by rfl) (by assumption) ?_; try simp only [Act.put, List.setIfInBounds_toArray, List.set_cons_zero, List.set_cons_succ])
        iterate 2 (refine lin_on (v := ?_) rfl (fun _ _ _ h => h) (by rfl) ?_ (by assumption) ?_; rotate_left; (· (intro wq hSw; go_simp; try with_reducible rfl)); try simp only [Act.put, List.setIfInBounds_toArray, List.set_cons_zero, List.set_cons_succ])
        iterate 14 (refine lin_off rfl (fun _ _ _ h => h) (by rfl) (by assumption) ?_; try simp only [Act.put, List.setIfInBounds_toArray, List.set_cons_zero, List.set_cons_succ])
        (refine lin_skip rfl (by rfl) (by assumption) ?_; try simp only [Act.put, List.setIfInBounds_toArray, List.set_cons_zero, List.set_cons_succ])
        (refine lin_skip rfl (by rfl) (by assumption) ?_; try simp only [Act.put, List.setIfInBounds_toArray, List.set_cons_zero, List.set_cons_succ])
        (refine lin_skip rfl (by rfl) (by assumption) ?_; try simp only [Act.put, List.setIfInBounds_toArray, List.set_cons_zero, List.set_cons_succ])
        iterate 2 (refine lin_on (v := ?_) rfl (fun _ _ _ h => h) (by rfl) ?_ (by assumption) ?_; rotate_left; (· (intro wq hSw; go_simp; try with_reducible rfl)); try simp only [Act.put, List.setIfInBounds_toArray, List.set_cons_zero, List.set_cons_succ])
        refine lin_done ?_
        go_wp2
        go_ret
        exact ⟨ret_eq HE.out.symm, HB.out.1⟩
theorem sIsOn_is (a b c d x y : Int) (k : Bool) (w : World) (h : onV a b c d x y = k) :
    Calls Tryz.prog 157 #[SegV a b c d, PtV x y] w fun e w' => e = .returned (.bool k) ∧ Below w.heap.size w w' := by
  subst h; exact sIsOn_any a b c d x y w
end Go.Proofs.YtbnjaaegbmhopaaGreatDoor
end
section
/- Slices of points that the call owns, and append to them. -/
namespace Go.Proofs.YtbnjaaegbmhopaaGreatDoor
open Go.RowKit
set_option linter.unusedVariables false

theorem flatP_len (l : List (Int × Int)) : (flatP l).length = l.length * 2 := by
  induction l with
  | nil => rfl
  | cons p r ih => simp [flatP, ih]; omega
theorem flatP_app (l m : List (Int × Int)) : flatP (l ++ m) = flatP l ++ flatP m := by
  induction l with
  | nil => rfl
  | cons p r ih => simp [flatP, ih]
theorem flatP_one (l : List (Int × Int)) : ∀ u ∈ flatP l, u.oneCell' = true := by
  induction l with
  | nil => intro u h; cases h
  | cons p r ih =>
    intro u h
    simp only [flatP, List.mem_cons] at h
    rcases h with rfl | rfl | h
    · rfl
    · rfl
    · exact ih u h
theorem flatP_get {l : List (Int × Int)} {j : Nat} {u : Value} (h : (flatP l)[j]? = some u) : ∃ (i : Nat) (x y : Int), l[i]? = some (x, y) ∧ (j = i * 2 ∧ u = .int .i64 x ∨ j = i * 2 + 1 ∧ u = .int .i64 y) := by
  induction l generalizing j with
  | nil => simp [flatP] at h
  | cons p r ih =>
    match j, h with
    | 0, h => simp [flatP] at h; exact ⟨0, p.1, p.2, rfl, .inl ⟨rfl, h.symm⟩⟩
    | 1, h => simp [flatP] at h; exact ⟨0, p.1, p.2, rfl, .inr ⟨rfl, h.symm⟩⟩
    | j + 2, h =>
      obtain ⟨i, x, y, h1, h2⟩ := ih (j := j) (by simpa [flatP] using h)
      exact ⟨i + 1, x, y, by simpa using h1, h2.imp (fun h => ⟨by omega, h.2⟩) (fun h => ⟨by omega, h.2⟩)⟩
/-- A row of points that the call owns, from block B on. -/
def OwnP (w : World) (B : Nat) (e : TypeId) (v : Value) (l : List (Int × Int)) : Prop := w.ownsRow B e 2 v l.length (flatP l)
section
variable {w w' : World} {B C : Nat} {e : TypeId} {v : Value} {A : Option Addr} {l : List (Int × Int)} {n c : Nat}
theorem OwnP.form (h : OwnP w B e v l) : ∃ A c, v = .slice A l.length c ∧ c ≤ maxLen ∧ l.length ≤ c := by
  rcases h.2 with ⟨rfl, h0⟩ | ⟨g, cap, cur, rfl, _, _, h1, h2, _⟩
  · exact ⟨none, 0, by rw [h0], by simp, by omega⟩
  · exact ⟨_, _, rfl, h2, h1⟩
theorem OwnP.sees (h : OwnP w B e (.slice A n c) l) : SeesP w w.heap.size A l := fun j x y hj => by
  have hl : j < l.length := (List.getElem?_eq_some_iff.1 hj).1
  rcases h.2 with ⟨_, h0⟩ | ⟨g, cap, cur, hv, _, hg, h1, h2, h3, h4⟩
  · omega
  · simp only [Value.slice.injEq] at hv
    obtain ⟨rfl, rfl, rfl⟩ := hv
    obtain ⟨c1, c2⟩ := flatP_at hj
    have at_ (i : Nat) (u : Value) (hi : i < l.length * 2) (hu : (flatP l)[i]? = some u) : w.cell? ⟨g, i, none⟩ = some u := by
      rw [← h4, List.getElem?_take, if_pos hi] at hu
      rw [cell_of_row w g i cur e (0, 0) hg, ← hu]; simp
    exact ⟨g, 0, rfl, (Array.getElem?_eq_some_iff.1 hg).1, by rw [Nat.zero_add]; exact at_ _ _ (by omega) c1, by rw [Nat.zero_add]; exact at_ _ _ (by omega) c2⟩
theorem OwnP.lt (h : OwnP w B e v l) : ∀ g, v.ownBlock = some g → B ≤ g ∧ g < w.heap.size := World.ownsRow.lt h
theorem OwnP.below (h : OwnP w B e v l) (hb : Below C w w') (hC : ∀ g, v.ownBlock = some g → g < C) : OwnP w' B e v l := by
  refine ⟨h.1, ?_⟩
  rcases h.2 with hn | ⟨g, cap, cur, rfl, hB, hg, rest⟩
  · exact .inl hn
  · exact .inr ⟨g, cap, cur, rfl, hB, (hb.block g (hC g rfl)).trans hg, rest⟩
theorem OwnP.belowAll (h : OwnP w B e v l) (hb : Below w.heap.size w w') : OwnP w' B e v l := h.below hb fun g hg => (h.lt g hg).2
theorem OwnP.drew (h : OwnP w B e v l) : OwnP w.drew B e v l := h
theorem OwnP.alloc (h : OwnP w B e v l) (o : Obj) : OwnP (w.alloc o) B e v l := World.ownsRow.alloc h o
theorem OwnP.lit (w : World) (B : Nat) (e : TypeId) (hB : B ≤ w.heap.size) : OwnP (w.alloc (.cells #[] e)) B e (.slice (some ⟨w.heap.size, 0, none⟩) 0 0) [] :=
  World.ownsRow_lit (base := B) (e := e) (size := 2) w #[] 0 hB (by simp) rfl
theorem OwnP.litAt (w : World) (B : Nat) (e : TypeId) (b : Nat) (hb : b = w.heap.size) (hB : B ≤ w.heap.size) : OwnP (w.alloc (.cells #[] e)) B e (.slice (some ⟨b, 0, none⟩) 0 0) [] := by
  subst hb; exact OwnP.lit w B e hB
theorem OwnP.nil (w : World) (B : Nat) (e : TypeId) : OwnP w B e (.slice none 0 0) [] := World.ownsRow_nil _ _ _ _
theorem OwnP.mono (h : OwnP w B e v l) (hC : C ≤ B) : OwnP w C e v l := by
  refine ⟨h.1, ?_⟩
  rcases h.2 with hn | ⟨g, cap, cur, rfl, hB, rest⟩
  · exact .inl hn
  · exact .inr ⟨g, cap, cur, rfl, by omega, rest⟩
end
theorem info_pt : (Tryz.prog.info? 33).map (fun i => (i.zero, i.size, i.bytes)) = some (some (PtV 0 0), 2, 16) := by kernel_rfl
/-- append(v, x...): v the call's own points, x whatever shows l2. -/
theorem run_appP (w : World) (ty : TypeId) (base : Nat) (v : Value) (l : List (Int × Int)) (hown : OwnP w base 33 v l)
    (B : Nat) (b off : Nat) (m c : Nat) (l2 : List (Int × Int)) (hm : m = l2.length) (hs : SeesP w B (some ⟨b, off, none⟩) l2) (h63 : l.length + l2.length ≤ 8796093022208) (hbase : base ≤ w.heap.size) :
    ∃ v' w', (Builtin.append_ #[24, 24] ty #[v, .slice (some ⟨b, off, none⟩) m c]).run Tryz.prog w = .ok v' w' ∧ OwnP w' base 33 v' (l ++ l2) ∧ w.grownBy w' v.ownBlock ∧ (v'.ownBlock = v.ownBlock ∨ v'.ownBlock = some w.heap.size) := by
  subst hm
  obtain ⟨i, hi, hz, h1, h2⟩ := info_parts info_pt
  have hc : ∀ j u, (flatP l2)[j]? = some u → w.cell? ((⟨b, off, none⟩ : Addr).add j) = some u := fun j u hu => by
    obtain ⟨k, x, y, hk, hj⟩ := flatP_get hu
    obtain ⟨b', off', hA, _, c1, c2⟩ := hs k x y hk
    simp only [Option.some.injEq, Addr.mk.injEq, and_true] at hA
    obtain ⟨rfl, rfl⟩ := hA
    rw [add_none]
    rcases hj with ⟨rfl, rfl⟩ | ⟨rfl, rfl⟩
    · exact c1
    · rw [← Nat.add_assoc]; exact c2
  obtain ⟨v', w', hr, g1, g2, _, g3⟩ := run_append_own_at (P := Tryz.prog) w base 24 ty 33 i _ 2 16 Tryz.underlying24 hi hz h1 h2 rfl (by decide) v l.length (flatP l) hown ⟨b, off, none⟩ l2.length c (flatP l2) (flatP_len l2) hc (flatP_one l2)
    (by unfold maxLen; omega) (by omega) hbase
  exact ⟨v', w', hr, by unfold OwnP; rw [flatP_app, List.length_append]; exact g1, g2, g3⟩
theorem appP (w : World) {ops : Array Oper} {rest : List Oper} {o : Oper} {a : Act} {Q : Exit → Act → World → Prop} (hgd : o.guard = none) (s x : Operand)
    (ho : o.op = .call { callee := .builtin .append, args := #[s, x], argTypes := #[24, 24] })
    (base : Nat) (v : Value) (l : List (Int × Int)) (hv : a.eval s = v) (hown : OwnP w base 33 v l)
    (B b off m c : Nat) (l2 : List (Int × Int)) (hx : a.eval x = .slice (some ⟨b, off, none⟩) m c) (hm : m = l2.length) (hs : SeesP w B (some ⟨b, off, none⟩) l2) (h63 : l.length + l2.length ≤ 8796093022208) (hbase : base ≤ w.heap.size)
    (h : ∀ A' c' L w', Hid (L = l ++ l2) → OwnP w' base 33 (.slice A' L.length c') L → w.grownBy w' v.ownBlock → ((Value.slice A' L.length c').ownBlock = v.ownBlock ∨ (Value.slice A' L.length c').ownBlock = some w.heap.size) → wpList Tryz.prog ops Q rest (a.put o.dst (.slice A' L.length c')) w') :
    wpList Tryz.prog ops Q (o :: rest) a w :=
  wpList_plain hgd fun K hK => by
    obtain ⟨v', w', hrun, h2, h3, h4⟩ := run_appP w o.type base v l hown B b off m c l2 hm hs h63 hbase
    unfold Oper.wp execOp
    simp only [ho, resolve, invoke, builtin, Sem.run_bind, Sem.run_pure, Result.andThen_ok, List.map_toArray, List.map_cons, List.map_nil, hv, hx, hrun]
    obtain ⟨A', c', rfl, _, _⟩ := h2.form
    exact hK _ _ (h A' c' _ w' (Lib.hid rfl) h2 h3 h4)
end Go.Proofs.YtbnjaaegbmhopaaGreatDoor
end
section
/- Segments: the ends of two segments that are on the other one, in the model. -/
namespace Go.Proofs.YtbnjaaegbmhopaaGreatDoor
open Go.ChangeShapes Go.WideShapes Go.ChangeAt Go.RowKit
set_option linter.unusedVariables false

/-- The four ends. -/
def endsL (a b c d p q r s : Int) : List (Int × Int) := [(a, b), (c, d), (p, q), (r, s)]
/-- Is the k-th end on the other segment? -/
def onK (a b c d p q r s : Int) : Nat → Bool
  | 0 => onV p q r s a b
  | 1 => onV p q r s c d
  | 2 => onV a b c d p q
  | _ => onV a b c d r s
/-- What the first k ends give. -/
def shT (a b c d p q r s : Int) : Nat → List (Int × Int)
  | 0 => []
  | k + 1 => match (endsL a b c d p q r s)[k]? with
    | some e => addP (shT a b c d p q r s k) (onK a b c d p q r s k) e.1 e.2
    | none => shT a b c d p q r s k
theorem shT_step {a b c d p q r s x y : Int} {k : Nat} (h : (endsL a b c d p q r s)[k]? = some (x, y)) : shT a b c d p q r s (k + 1) = addP (shT a b c d p q r s k) (onK a b c d p q r s k) x y := by
  simp only [shT, h]
theorem shT_four (a b c d p q r s : Int) : shT a b c d p q r s 4 = shL a b c d p q r s := rfl
theorem shT_len (a b c d p q r s : Int) (k : Nat) : (shT a b c d p q r s k).length ≤ k := by
  induction k with
  | zero => simp [shT]
  | succ k ih =>
    simp only [shT]
    split
    · unfold addP; split
      · simp; omega
      · omega
    · omega
theorem onK_lo {a b c d p q r s x y : Int} {k : Nat} (h : (endsL a b c d p q r s)[k]? = some (x, y)) (hk : k < 2) : onV p q r s x y = onK a b c d p q r s k := by
  match k, hk with
  | 0, _ => simp [endsL] at h; obtain ⟨rfl, rfl⟩ := h; rfl
  | 1, _ => simp [endsL] at h; obtain ⟨rfl, rfl⟩ := h; rfl
theorem onK_hi {a b c d p q r s x y : Int} {k : Nat} (h : (endsL a b c d p q r s)[k]? = some (x, y)) (hk : 2 ≤ k) (hk4 : k < 4) : onV a b c d x y = onK a b c d p q r s k := by
  rcases (by omega : k = 2 ∨ k = 3) with rfl | rfl
  · simp [endsL] at h; obtain ⟨rfl, rfl⟩ := h; rfl
  · simp [endsL] at h; obtain ⟨rfl, rfl⟩ := h; rfl
/-- The loop's memory: the two segments, the ends, and the call's own row. -/
def ShRel (w wr : World) (a b c d p q r s : Int) (B : Option Addr) (cap : Nat) (L : List (Int × Int)) : Prop :=
  Vars w wr [SegC a b c d, SegC p q r s] ∧ SeesP wr (w.heap.size + 4) (some ⟨w.heap.size + 1 + 1 + 1, 0, none⟩) (endsL a b c d p q r s) ∧
  OwnP wr (w.heap.size + 2) 33 (.slice B L.length cap) L ∧ (∀ g, (Value.slice B L.length cap).ownBlock = some g → g ≠ w.heap.size + 3) ∧ w.heap.size + 4 ≤ wr.heap.size
section
variable {w wr wx : World} {a b c d p q r s x y : Int} {B : Option Addr} {cap k : Nat} {L : List (Int × Int)}
theorem ShRel.next (h : ShRel w wr a b c d p q r s B cap L) (hb : Below wr.heap.size wr wx) : ShRel w wx a b c d p q r s B cap L :=
  ⟨h.1.next hb, h.2.1.below (hb.mono h.2.2.2.2), h.2.2.1.belowAll hb, h.2.2.2.1, Nat.le_trans h.2.2.2.2 hb.size⟩
theorem ShRel.drew (h : ShRel w wr a b c d p q r s B cap L) : ShRel w wr.drew a b c d p q r s B cap L := h.next (Below.refl _ _).drew
theorem ShRel.drewN (h : ShRel w wr a b c d p q r s B cap L) (n : Nat) : ShRel w (wr.drewN n) a b c d p q r s B cap L := h.next ⟨rfl, rfl, rfl, Nat.le_refl _, fun _ _ => rfl⟩
theorem ShRel.at_ (h : ShRel w wr a b c d p q r s B cap L) (hk : (endsL a b c d p q r s)[k]? = some (x, y)) : wr.cell? ⟨w.heap.size + 1 + 1 + 1, k * 2, none⟩ = some (.int .i64 x) ∧ wr.cell? ⟨w.heap.size + 1 + 1 + 1, k * 2 + 1, none⟩ = some (.int .i64 y) := by
  obtain ⟨b', off, hA, _, c1, c2⟩ := h.2.1 k x y hk
  simp only [Option.some.injEq, Addr.mk.injEq, and_true] at hA
  obtain ⟨rfl, rfl⟩ := hA
  rw [Nat.zero_add] at c1 c2
  exact ⟨c1, c2⟩
theorem ShRel.cells (h : ShRel w wr a b c d p q r s B cap L) (hk : (endsL a b c d p q r s)[k]? = some (x, y)) : (fun w' => w'.cell? ⟨w.heap.size, 0, none⟩ = some (.int .i64 a) ∧ w'.cell? ⟨w.heap.size, 1, none⟩ = some (.int .i64 b) ∧ w'.cell? ⟨w.heap.size, 2, none⟩ = some (.int .i64 c) ∧ w'.cell? ⟨w.heap.size, 3, none⟩ = some (.int .i64 d) ∧ w'.cell? ⟨w.heap.size + 1, 0, none⟩ = some (.int .i64 p) ∧ w'.cell? ⟨w.heap.size + 1, 1, none⟩ = some (.int .i64 q) ∧ w'.cell? ⟨w.heap.size + 1, 2, none⟩ = some (.int .i64 r) ∧ w'.cell? ⟨w.heap.size + 1, 3, none⟩ = some (.int .i64 s) ∧ w'.cell? ⟨w.heap.size + 1 + 1 + 1, k * 2, none⟩ = some (.int .i64 x) ∧ w'.cell? ⟨w.heap.size + 1 + 1 + 1, k * 2 + 1, none⟩ = some (.int .i64 y)) wr := by
  obtain ⟨h0, h1, h2, h3, h4, h5, h6, h7⟩ := h.1.c44
  obtain ⟨c1, c2⟩ := h.at_ hk
  exact ⟨h0, h1, h2, h3, h4, h5, h6, h7, c1, c2⟩
/-- Behind an append. -/
theorem ShRel.app {B' : Option Addr} {cap' : Nat} {L' : List (Int × Int)} (h : ShRel w wr a b c d p q r s B cap L) (hg : wr.grownBy wx (Value.slice B L.length cap).ownBlock) (ho : OwnP wx (w.heap.size + 2) 33 (.slice B' L'.length cap') L')
    (hb : (Value.slice B' L'.length cap').ownBlock = (Value.slice B L.length cap).ownBlock ∨ (Value.slice B' L'.length cap').ownBlock = some wr.heap.size) : ShRel w wx a b c d p q r s B' cap' L' := by
  have hlt := h.2.2.1.lt
  have h5 := h.2.2.2.2
  have hbel : Below (w.heap.size + 2) wr wx := (Below.refl _ _).grown hg (by omega) fun g hg' => (hlt g hg').1
  refine ⟨⟨h.1.1.trans (hbel.mono (by omega)), Nat.le_trans h.1.2.1 hg.size, fun j cs hj => ?_⟩, fun j x y hj => ?_, ho, fun g hg' => ?_, Nat.le_trans h5 hg.size⟩
  · have hl : j < 2 := (List.getElem?_eq_some_iff.1 hj).1
    obtain ⟨T, h3⟩ := h.1.2.2 j cs hj
    exact ⟨T, (hbel.block _ (by omega)).trans h3⟩
  · obtain ⟨b', off, hA, hlt', c1, c2⟩ := h.2.1 j x y hj
    simp only [Option.some.injEq, Addr.mk.injEq, and_true] at hA
    obtain ⟨rfl, rfl⟩ := hA
    have hne : (Value.slice B L.length cap).ownBlock ≠ some (w.heap.size + 3) := fun e => h.2.2.2.1 _ e rfl
    refine ⟨_, _, rfl, hlt', ?_, ?_⟩
    · exact (World.cell?_of_block (w := wr) (hg.block (w.heap.size + 3) (by omega) (fun e => hne e.symm))).trans c1
    · exact (World.cell?_of_block (w := wr) (hg.block (w.heap.size + 3) (by omega) (fun e => hne e.symm))).trans c2
  · rcases hb with e | e
    · exact h.2.2.2.1 g (e ▸ hg')
    · rw [e] at hg'; injection hg' with hg'; omega
end
/-- One entry more is compared. -/
theorem look_step {o v : Bool} {L : List (Int × Int)} {j : Nat} {x y x' y' : Int} (hv : v = (o && decide ((x, y) ∉ L.take j))) (hj : L[j]? = some (x', y')) :
    (v && !decide (x' = x ∧ y' = y)) = (o && decide ((x, y) ∉ L.take (j + 1))) := by
  rw [hv, List.take_add_one, hj, Bool.and_assoc]
  congr 1
  have e : ((x, y) ∉ List.take j L ++ (some (x', y')).toList) ↔ ((x, y) ∉ List.take j L ∧ ¬ (x' = x ∧ y' = y)) := by
    simp only [Option.toList, List.mem_append, List.mem_singleton, Prod.mk.injEq, not_or]
    exact and_congr_right fun _ => not_congr ⟨fun h => ⟨h.1.symm, h.2.symm⟩, fun h => ⟨h.1.symm, h.2.symm⟩⟩
  rw [Bool.eq_iff_iff]
  simp only [Bool.and_eq_true, Bool.not_eq_true', decide_eq_true_eq, decide_eq_false_iff_not]
  exact e.symm
theorem addP_by {o v : Bool} {L : List (Int × Int)} {x y : Int} (hv : v = (o && decide ((x, y) ∉ L.take L.length))) : addP L o x y = if v = true then L ++ [(x, y)] else L := by
  unfold addP
  rw [hv, List.take_length]
  simp only [Bool.and_eq_true, decide_eq_true_eq]
set_option maxRecDepth 100000 in
set_option maxHeartbeats 4000000 in
theorem l5Shared_any (a b c d p q r s : Int) (w : World) :
    Calls Tryz.prog 139 #[SegV a b c d, SegV p q r s] w fun e w' => e = .returned (.int .i64 ((shL a b c d p q r s).length : Nat)) ∧ Below w.heap.size w w' := by
  go_enter Tryz.func139, Tryz.ntmps139
  go_wp2
  go_loopg [5, 7, 8, 9] 4 (fun g s5 s7 s8 s9 wr => ∃ (k : Nat) (B : Option Addr) (cap : Nat) (L : List (Int × Int)), k + g = 4 ∧ s5 = .slice B L.length cap ∧ s7 = .int .i64 k ∧ (∃ z : Value, s8 = z) ∧ (∃ z : Value, s9 = z) ∧ Hid (L = shT a b c d p q r s k) ∧ Hid (ShRel w wr a b c d p q r s B cap L))
  case atStart =>
    refine ⟨0, _, _, [], by omega, rfl, rfl, ⟨_, rfl⟩, ⟨_, rfl⟩, Lib.hid rfl, Lib.hid ?_⟩
    refine ⟨((Vars.of2 w (SegC a b c d) (SegC p q r s) 78 78).al _).al _, seesP_new _ _ (endsL a b c d p q r s) _ _ _ rfl (by simp) (by simp), ?_, ?_, ?_⟩
    · exact OwnP.alloc (OwnP.litAt ((w.alloc (.cells (SegC a b c d) 78)).alloc (.cells (SegC p q r s) 78)) (w.heap.size + 2) 33 (w.heap.size + 1 + 1) (by simp) (by simp)) _
    · intro g hg; simp [Value.ownBlock] at hg; omega
    · simp
  case round =>
    obtain ⟨k, B, cap, L, hkg, rfl, rfl, ⟨z8, rfl⟩, ⟨z9, rfl⟩, HL, HR⟩ := hrel
    cases gk with
    | zero =>
      have hkz : ¬ ((k : Int) < 4) := by omega
      have HE : Hid (L.length = (shL a b c d p q r s).length) := Lib.hid (by rw [HL.out, ← shT_four]; congr 2)
      go_wp2
      go_ret
      exact ⟨ret_int (by rw [HE.out]), HR.out.1.1⟩
    | succ g =>
      have hkz : (k : Int) < 4 := by omega
      have hk4 : k < 4 := by omega
      have hlen : L.length ≤ 4 := by have := shT_len a b c d p q r s k; rw [← HL.out] at this; omega
      obtain ⟨x, y, hxy⟩ : ∃ x y, (endsL a b c d p q r s)[k]? = some (x, y) := ⟨_, _, List.getElem?_eq_getElem (show k < (endsL a b c d p q r s).length from hk4)⟩
      obtain ⟨o, ho⟩ : ∃ o, onK a b c d p q r s k = o := ⟨_, rfl⟩
      have HS : Hid (shT a b c d p q r s (k + 1) = addP L o x y) := Lib.hid (by rw [shT_step hxy, HL.out, ho])
      clear HL
      go_upto_region 6 with fail
      go_cut [8] from 20 to 71 (fun s8 wx => s8 = .bool o ∧ Hid (ShRel w wx a b c d p q r s B cap L))
      case first =>
        by_cases hk2 : (k : Int) < 2
        · have HO := Lib.hid ((onK_lo hxy (by omega)).trans ho)
          have hk3 : ¬ (2 ≤ (k : Int)) := by omega
          have hk4b : decide (2 ≤ (k : Int)) = false := decide_eq_false hk3
          have HR := Lib.hid HR.out.drew
          refine wp_region_held_drew (S := (fun w' => w'.cell? ⟨w.heap.size, 0, none⟩ = some (.int .i64 a) ∧ w'.cell? ⟨w.heap.size, 1, none⟩ = some (.int .i64 b) ∧ w'.cell? ⟨w.heap.size, 2, none⟩ = some (.int .i64 c) ∧ w'.cell? ⟨w.heap.size, 3, none⟩ = some (.int .i64 d) ∧ w'.cell? ⟨w.heap.size + 1, 0, none⟩ = some (.int .i64 p) ∧ w'.cell? ⟨w.heap.size + 1, 1, none⟩ = some (.int .i64 q) ∧ w'.cell? ⟨w.heap.size + 1, 2, none⟩ = some (.int .i64 r) ∧ w'.cell? ⟨w.heap.size + 1, 3, none⟩ = some (.int .i64 s) ∧ w'.cell? ⟨w.heap.size + 1 + 1 + 1, k * 2, none⟩ = some (.int .i64 x) ∧ w'.cell? ⟨w.heap.size + 1 + 1 + 1, k * 2 + 1, none⟩ = some (.int .i64 y))) (by kernel_rfl) (HR.out.cells hxy) (fun hHeld => ?_)
          cases o
          · skip
            refine to_lin (T := [(0, 25, 128), (1, 26, 16777216), (2, 27, 33554432), (4, 28, 67108872), (4, 29, 67108928), (4, 30, 67108992), (52, 31, 872415232), (68, 32, 1140850688), (140, 33, 2348810240), (260, 34, 4362076160), (768, 35, 8589934592), (1024, 36, 17179869312), (3072, 37, 51539607552), (5120, 38, 85899345920), (8192, 39, 137438953476), (8192, 40, 137438953536), (8192, 41, 137438953600), (106496, 42, 1786706395136), (139264, 43, 2336462209024), (286720, 44, 4810363371520), (533504, 45, 8950711844864), (1049600, 46, 17609365913600), (4194303, 9, 35184372088832)]) (n := 23) [(0, true), (1, true), (2, true), (3, true), (4, true), (5, true), (6, true), (7, true), (8, false), (9, true), (10, true), (11, true), (12, true), (13, true), (14, true), (15, true), (16, true), (17, true), (18, true), (19, false), (20, true), (21, true), (22, true)] ⟨by kernel_rfl, by kernel_rfl, by kernel_rfl⟩ (by kernel_rfl) (fun hTag => ?_)
            iterate 8 (refine lin_on (v := ?_) rfl (fun _ _ _ h => h) (by rfl) ?_ (by assumption) ?_; rotate_left; (· (intro wq hSw; go_simp; try with_reducible rfl)); try simp only [Act.put, List.setIfInBounds_toArray, List.set_cons_zero, List.set_cons_succ])
            refine lin_call rfl (by rfl) (fun K hK => ?_)
            go_simp
            go_at_call 157
            refine (sIsOn_is _ _ _ _ _ _ _ _ HO.out).mono ?_
            rintro e w9 ⟨rfl, hb9⟩
            have HR := Lib.hid (HR.out.next hb9)
            clear hb9
            go_wp2_with fail
            refine hK.out _ _ ?_ (fun hHeld => ?_)
            · exact HR.out.cells hxy
            clear hK K
            try simp only [Act.put, List.setIfInBounds_toArray, List.set_cons_zero, List.set_cons_succ]
            iterate 5 (refine lin_on (v := ?_) rfl (fun _ _ _ h => h) (by rfl) ?_ (by assumption) ?_; rotate_left; (· (intro wq hSw; go_simp; try with_reducible rfl)); try simp only [Act.put, List.setIfInBounds_toArray, List.set_cons_zero, List.set_cons_succ])
            iterate 5 (refine lin_off rfl (fun _ _ _ h => h) (by rfl) (by assumption) ?_; try simp only [Act.put, List.setIfInBounds_toArray, List.set_cons_zero, List.set_cons_succ])
            (refine lin_skip rfl (by rfl) (by assumption) ?_; try simp only [Act.put, List.setIfInBounds_toArray, List.set_cons_zero, List.set_cons_succ])
            iterate 3 (refine lin_on (v := ?_) rfl (fun _ _ _ h => h) (by rfl) ?_ (by assumption) ?_; rotate_left; (· (intro wq hSw; go_simp; try with_reducible rfl)); try simp only [Act.put, List.setIfInBounds_toArray, List.set_cons_zero, List.set_cons_succ])
            refine lin_done ?_
            go_wp2_with fail
            go_meet
            exact ⟨rfl, HR⟩
          · skip
            refine to_lin (T := [(0, 25, 128), (1, 26, 16777216), (2, 27, 33554432), (4, 28, 67108872), (4, 29, 67108928), (4, 30, 67108992), (52, 31, 872415232), (68, 32, 1140850688), (140, 33, 2348810240), (260, 34, 4362076160), (768, 35, 8589934592), (1024, 36, 17179869312), (3072, 37, 51539607552), (5120, 38, 85899345920), (8192, 39, 137438953476), (8192, 40, 137438953536), (8192, 41, 137438953600), (106496, 42, 1786706395136), (139264, 43, 2336462209024), (286720, 44, 4810363371520), (533504, 45, 8950711844864), (1049600, 46, 17609365913600), (4194303, 9, 35184372088832)]) (n := 23) [(0, true), (1, true), (2, true), (3, true), (4, true), (5, true), (6, true), (7, true), (8, false), (9, true), (10, true), (11, true), (12, true), (13, true), (14, true), (15, true), (16, true), (17, true), (18, true), (19, false), (20, true), (21, true), (22, true)] ⟨by kernel_rfl, by kernel_rfl, by kernel_rfl⟩ (by kernel_rfl) (fun hTag => ?_)
            iterate 8 (refine lin_on (v := ?_) rfl (fun _ _ _ h => h) (by rfl) ?_ (by assumption) ?_; rotate_left; (· (intro wq hSw; go_simp; try with_reducible rfl)); try simp only [Act.put, List.setIfInBounds_toArray, List.set_cons_zero, List.set_cons_succ])
            refine lin_call rfl (by rfl) (fun K hK => ?_)
            go_simp
            go_at_call 157
            refine (sIsOn_is _ _ _ _ _ _ _ _ HO.out).mono ?_
            rintro e w9 ⟨rfl, hb9⟩
            have HR := Lib.hid (HR.out.next hb9)
            clear hb9
            go_wp2_with fail
            refine hK.out _ _ ?_ (fun hHeld => ?_)
            · exact HR.out.cells hxy
            clear hK K
            try simp only [Act.put, List.setIfInBounds_toArray, List.set_cons_zero, List.set_cons_succ]
            iterate 2 (refine lin_on (v := ?_) rfl (fun _ _ _ h => h) (by rfl) ?_ (by assumption) ?_; rotate_left; (· (intro wq hSw; go_simp; try with_reducible rfl)); try simp only [Act.put, List.setIfInBounds_toArray, List.set_cons_zero, List.set_cons_succ])
            iterate 8 (refine lin_off rfl (fun _ _ _ h => h) (by rfl) (by assumption) ?_; try simp only [Act.put, List.setIfInBounds_toArray, List.set_cons_zero, List.set_cons_succ])
            (refine lin_skip rfl (by rfl) (by assumption) ?_; try simp only [Act.put, List.setIfInBounds_toArray, List.set_cons_zero, List.set_cons_succ])
            (refine lin_off rfl (fun _ _ _ h => h) (by rfl) (by assumption) ?_; try simp only [Act.put, List.setIfInBounds_toArray, List.set_cons_zero, List.set_cons_succ])
            iterate 2 (refine lin_on (v := ?_) rfl (fun _ _ _ h => h) (by rfl) ?_ (by assumption) ?_; rotate_left; (· (intro wq hSw; go_simp; try with_reducible rfl)); try simp only [Act.put, List.setIfInBounds_toArray, List.set_cons_zero, List.set_cons_succ])
            refine lin_done ?_
            go_wp2_with fail
            go_meet
            exact ⟨rfl, HR⟩
        · have HO := Lib.hid ((onK_hi hxy (by omega) hk4).trans ho)
          have hk3 : 2 ≤ (k : Int) := by omega
          have HR := Lib.hid HR.out.drew
          refine wp_region_held_drew (S := (fun w' => w'.cell? ⟨w.heap.size, 0, none⟩ = some (.int .i64 a) ∧ w'.cell? ⟨w.heap.size, 1, none⟩ = some (.int .i64 b) ∧ w'.cell? ⟨w.heap.size, 2, none⟩ = some (.int .i64 c) ∧ w'.cell? ⟨w.heap.size, 3, none⟩ = some (.int .i64 d) ∧ w'.cell? ⟨w.heap.size + 1, 0, none⟩ = some (.int .i64 p) ∧ w'.cell? ⟨w.heap.size + 1, 1, none⟩ = some (.int .i64 q) ∧ w'.cell? ⟨w.heap.size + 1, 2, none⟩ = some (.int .i64 r) ∧ w'.cell? ⟨w.heap.size + 1, 3, none⟩ = some (.int .i64 s) ∧ w'.cell? ⟨w.heap.size + 1 + 1 + 1, k * 2, none⟩ = some (.int .i64 x) ∧ w'.cell? ⟨w.heap.size + 1 + 1 + 1, k * 2 + 1, none⟩ = some (.int .i64 y))) (by kernel_rfl) (HR.out.cells hxy) (fun hHeld => ?_)
          refine to_lin (T := [(0, 25, 128), (1, 26, 16777216), (2, 27, 33554432), (4, 28, 67108872), (4, 29, 67108928), (4, 30, 67108992), (52, 31, 872415232), (68, 32, 1140850688), (140, 33, 2348810240), (260, 34, 4362076160), (768, 35, 8589934592), (1024, 36, 17179869312), (3072, 37, 51539607552), (5120, 38, 85899345920), (8192, 39, 137438953476), (8192, 40, 137438953536), (8192, 41, 137438953600), (106496, 42, 1786706395136), (139264, 43, 2336462209024), (286720, 44, 4810363371520), (533504, 45, 8950711844864), (1049600, 46, 17609365913600), (4194303, 9, 35184372088832)]) (n := 23) [(0, true), (1, true), (2, true), (3, true), (4, true), (5, true), (6, true), (7, true), (8, false), (9, true), (10, true), (11, true), (12, true), (13, true), (14, true), (15, true), (16, true), (17, true), (18, true), (19, false), (20, true), (21, true), (22, true)] ⟨by kernel_rfl, by kernel_rfl, by kernel_rfl⟩ (by kernel_rfl) (fun hTag => ?_)
          iterate 3 (refine lin_on (v := ?_) rfl (fun _ _ _ h => h) (by rfl) ?_ (by assumption) ?_; rotate_left; (· (intro wq hSw; go_simp; try with_reducible rfl)); try simp only [Act.put, List.setIfInBounds_toArray, List.set_cons_zero, List.set_cons_succ])
          iterate 5 (refine lin_off rfl (fun _ _ _ h => h) (by rfl) (by assumption) ?_; try simp only [Act.put, List.setIfInBounds_toArray, List.set_cons_zero, List.set_cons_succ])
          (refine lin_skip rfl (by rfl) (by assumption) ?_; try simp only [Act.put, List.setIfInBounds_toArray, List.set_cons_zero, List.set_cons_succ])
          iterate 10 (refine lin_on (v := ?_) rfl (fun _ _ _ h => h) (by rfl) ?_ (by assumption) ?_; rotate_left; (· (intro wq hSw; go_simp; try with_reducible rfl)); try simp only [Act.put, List.setIfInBounds_toArray, List.set_cons_zero, List.set_cons_succ])
          refine lin_call rfl (by rfl) (fun K hK => ?_)
          go_simp
          go_at_call 157
          refine (sIsOn_is _ _ _ _ _ _ _ _ HO.out).mono ?_
          rintro e w9 ⟨rfl, hb9⟩
          have HR := Lib.hid (HR.out.next hb9)
          clear hb9
          go_wp2_with fail
          refine hK.out _ _ ?_ (fun hHeld => ?_)
          · exact HR.out.cells hxy
          clear hK K
          try simp only [Act.put, List.setIfInBounds_toArray, List.set_cons_zero, List.set_cons_succ]
          iterate 3 (refine lin_on (v := ?_) rfl (fun _ _ _ h => h) (by rfl) ?_ (by assumption) ?_; rotate_left; (· (intro wq hSw; go_simp; try with_reducible rfl)); try simp only [Act.put, List.setIfInBounds_toArray, List.set_cons_zero, List.set_cons_succ])
          refine lin_done ?_
          go_wp2_with fail
          go_meet
          exact ⟨rfl, HR⟩
      case rest =>
      obtain ⟨rfl, HR1⟩ := hcut
      clear HR ho
      go_wp2
      go_loopg [8, 9] L.length (fun g2 s8 s9 wy => ∃ (j : Nat) (v : Bool), j + g2 = L.length ∧ s9 = .int .i64 j ∧ s8 = .bool v ∧ Hid (v = (o && decide ((x, y) ∉ L.take j))) ∧ Hid (ShRel w wy a b c d p q r s B cap L))
      case atStart => exact ⟨0, o, by omega, rfl, rfl, Lib.hid (by simp), HR1⟩
      case round =>
        obtain ⟨j, v, hjg, rfl, rfl, HV, HR⟩ := hrel
        clear HR1
        cases gk with
        | zero =>
          have hjz : ¬ ((j : Int) < (L.length : Int)) := by omega
          have hv2 : v = (o && decide ((x, y) ∉ L.take L.length)) := by have := HV.out; rwa [show j = L.length by omega] at this
          have HA : Hid (shT a b c d p q r s (k + 1) = if v = true then L ++ [(x, y)] else L) := Lib.hid (HS.out.trans (addP_by hv2))
          clear hv2
          clear HS HV
          cases v
          · go_wp2
            go_roundg g
            case measure => omega
            case rel => exact ⟨k + 1, B, cap, L, by omega, rfl, by go_num, ⟨_, rfl⟩, ⟨_, rfl⟩, Lib.hid (by rw [HA.out]; rfl), HR⟩
          · obtain ⟨k0, k1⟩ := HR.out.at_ hxy
            go_wp2_with (at_builtin; go_loud (refine appP _ rfl _ _ rfl (w.heap.size + 2) _ L rfl (HR.out.2.2.1.alloc _) (wr.heap.size + 1) wr.heap.size 0 1 1 [(x, y)] rfl rfl (seesP_new _ _ [(x, y)] _ _ _ rfl rfl (by omega)) (by simp; omega) (by simp; have := HR.out.2.2.2.2; omega) ?_); intro B9 c9 L9 w9 hL9 ho9 hg9 hb9)
            go_roundg g
            case measure => omega
            case rel => exact ⟨k + 1, B9, c9, L9, by omega, rfl, by go_num, ⟨_, rfl⟩, ⟨_, rfl⟩, Lib.hid (by rw [HA.out, hL9.out]; rfl), Lib.hid ((HR.out.next ((Below.refl _ _).alloc (Nat.le_refl _) _)).app hg9 ho9 hb9)⟩
        | succ g2 =>
          have hjz : (j : Int) < (L.length : Int) := by omega
          obtain ⟨b', off, x', y', hB, hbB, hx, hcx, hcy⟩ := HR.out.2.2.1.sees.at_ (show j < L.length by omega)
          subst hB
          have HV' := Lib.hid (look_step HV.out hx)
          clear hx HV
          obtain ⟨k0, k1⟩ := HR.out.at_ hxy
          cases v
          · go_wp2_with fail
            go_quiet (fail)
            go_wp2
            go_roundg g2
            case measure => omega
            case rel => exact ⟨j + 1, _, by omega, by go_num, rfl, Lib.hid (by rw [← HV'.out]; rfl), Lib.hid (HR.out.drewN _)⟩
          · by_cases h1 : x' = x
            · by_cases h2 : y' = y
              · have HF : Hid (false = (o && decide ((x, y) ∉ L.take (j + 1)))) := Lib.hid (by rw [← HV'.out]; simp [h1, h2])
                clear HV'
                subst h1 h2
                go_wp2_with fail
                go_quiet (fail)
                go_wp2
                go_roundg g2
                case measure => omega
                case rel => exact ⟨j + 1, _, by omega, by go_num, rfl, HF, Lib.hid (HR.out.drewN _)⟩
              · have HF : Hid (true = (o && decide ((x, y) ∉ L.take (j + 1)))) := Lib.hid (by rw [← HV'.out]; simp [h2])
                clear HV'
                subst h1
                go_wp2_with fail
                go_quiet (fail)
                go_wp2
                go_roundg g2
                case measure => omega
                case rel => exact ⟨j + 1, _, by omega, by go_num, rfl, HF, Lib.hid (HR.out.drewN _)⟩
            · have HF : Hid (true = (o && decide ((x, y) ∉ L.take (j + 1)))) := Lib.hid (by rw [← HV'.out]; simp [h1])
              clear HV'
              go_wp2_with fail
              go_quiet (fail)
              go_wp2
              go_roundg g2
              case measure => omega
              case rel => exact ⟨j + 1, _, by omega, by go_num, rfl, HF, Lib.hid (HR.out.drewN _)⟩
end Go.Proofs.YtbnjaaegbmhopaaGreatDoor
end
section
/- Segments: how two segments meet, in the model. -/
namespace Go.Proofs.YtbnjaaegbmhopaaGreatDoor
open Go.ChangeShapes Go.WideShapes Go.ChangeAt Go.RowKit
set_option linter.unusedVariables false

def hm3T : List (Nat × Nat × Nat) := [(0, 14, 4), (1, 15, 8192), (2, 16, 16384), (0, 17, 4), (8, 18, 65536), (16, 19, 131072), (36, 20, 294912), (0, 21, 8), (128, 22, 1048576), (256, 23, 2097152), (0, 24, 8), (1024, 25, 8388608), (2048, 26, 16777216), (4672, 27, 37748736), (8256, 28, 67633152), (24576, 29, 134217728), (32768, 30, 268435464), (98304, 31, 805306368), (163840, 32, 1342177280), (32768, 33, 268435464), (557056, 34, 4563402752), (1081344, 35, 8858370048), (2392064, 36, 19595788288), (32768, 37, 268435460), (8421376, 38, 68987912192), (16809984, 39, 137707388928), (32768, 40, 268435460), (67141632, 41, 550024249344), (134250496, 42, 1099780063232), (306216960, 43, 2474169597952), (541097984, 44, 4432674684928), (1073774592, 45, 8796361457664), (2684354560, 46, 17592186044416), (4294967296, 47, 35184372088836), (12884901888, 48, 105553116266496), (21474836480, 49, 175921860444160), (4294967296, 50, 35184372088836), (73014444032, 51, 598134325510144), (141733920768, 52, 1161084278931456), (313532612608, 53, 2568459162484736), (4294967296, 54, 35184372088840), (1103806595072, 55, 9042383626829824), (2203318222848, 56, 18049582881570816), (4294967296, 57, 35184372088840), (8800387989504, 58, 72092778410016768), (17596481011712, 59, 144150372447944704), (40136469381120, 60, 324294357542764544), (70922794958848, 61, 580999536302882816), (140741783322624, 62, 1152956688978935808), (351843720888320, 63, 2305843009213693952), (562949953421312, 64, 4611686018427387912), (1688849860263936, 65, 13835058055282163712), (2814749767106560, 66, 23058430092136939520), (562949953421312, 67, 4611686018427387912), (9570149208162304, 68, 78398662313265594368), (18577348462903296, 69, 152185638608103800832), (41095346599755776, 70, 336653079345199316992), (562949953421312, 71, 4611686018427387908), (144678138029277184, 72, 1185203306735838691328), (288793326105133056, 73, 2365794927453249994752), (562949953421312, 74, 4611686018427387908), (1153484454560268288, 75, 9449344651757717815296), (2306405959167115264, 76, 18894077617497008242688), (5260767314722160640, 77, 42505910031845234311168), (9295992580846125056, 78, 76152771222291456458752), (18447307023662972928, 79, 151120339137847074226176)]
def hm3S : List (Nat × Bool) := [(0, true), (1, true), (2, true), (3, true), (4, true), (5, true), (7, true), (8, true), (9, true), (10, true), (11, true), (12, true), (6, false), (13, false), (14, true), (15, true), (16, true), (17, true), (18, true), (19, true), (20, true), (21, true), (23, true), (24, true), (25, true), (26, true), (27, true), (28, true), (22, false), (29, false), (30, true), (31, true), (32, true), (33, true), (34, true), (35, true), (36, true), (37, true), (38, true), (40, true), (41, true), (42, true), (43, true), (44, true), (45, true), (39, false), (46, false), (47, true), (48, true), (49, true), (50, true), (51, true), (52, true), (53, true), (54, true), (55, true), (57, true), (58, true), (59, true), (60, true), (61, true), (62, true), (56, false), (63, false), (64, true), (65, true)]
def hm7T : List (Nat × Nat × Nat) := [(0, 85, 4), (1, 86, 19342813113834066795298816), (0, 87, 4), (4, 88, 77371252455336267181195264), (0, 89, 8), (16, 90, 309485009821345068724781056), (42, 91, 812398150781030805402550272), (0, 92, 4), (128, 93, 2475880078570760549798248448), (0, 94, 4), (512, 95, 9903520314283042199192993792), (0, 96, 8), (2048, 97, 39614081257132168796771975168), (5440, 98, 103986963299971943091526434816), (8256, 99, 159694265067814055461987024896), (16384, 100, 316912650057057350374175801344), (40960, 101, 633825300114114700748351602688), (65536, 102, 1267650600228229401496703205384), (196608, 103, 3802951800684688204490109616128), (65536, 104, 1267650600228229401496703205384), (589824, 105, 11408855402054064613470328848384), (65536, 106, 1267650600228229401496703205380), (2162688, 107, 41832469807531570249391205777408), (5570560, 108, 107750301019399499127219772456960), (65536, 109, 1267650600228229401496703205384), (16842752, 110, 325786204258654956184652723781632), (65536, 111, 1267650600228229401496703205384), (67174400, 112, 1299341865233935136534120785510400), (65536, 113, 1267650600228229401496703205380), (268500992, 114, 5193564509135055857931993032425472), (713097216, 115, 13631046904254150754294049567408128), (1082195968, 116, 20932714361568752106915060030373888), (2147549184, 117, 41539642518878849257645467336966144), (4295032832, 118, 83078017387157470285889437970726912)]
def hm7S : List (Nat × Bool) := [(0, true), (1, true), (2, true), (3, true), (4, true), (5, true), (7, true), (8, true), (9, true), (10, true), (11, true), (12, true), (6, false), (13, false), (14, true), (15, true), (16, true), (17, true), (18, true), (19, true), (20, true), (21, true), (22, true), (24, true), (25, true), (26, true), (27, true), (28, true), (29, true), (23, false), (30, false), (31, true), (32, true), (33, true)]
theorem smin_mm (a b : Int) (w : World) : Calls Tryz.prog 138 #[.int .i64 a, .int .i64 b] w fun e w' => e = .returned (.int .i64 (min a b)) ∧ w = w' := by rw [← ext_min]; exact smin_any a b w
theorem smax_mm (a b : Int) (w : World) : Calls Tryz.prog 112 #[.int .i64 a, .int .i64 b] w fun e w' => e = .returned (.int .i64 (max a b)) ∧ w = w' := by rw [← ext_max]; exact smax_any a b w
theorem l5Shared_is (a b c d p q r s : Int) (n : Nat) (w : World) (h : (shL a b c d p q r s).length = n) :
    Calls Tryz.prog 139 #[SegV a b c d, SegV p q r s] w fun e w' => e = .returned (.int .i64 (n : Int)) ∧ Below w.heap.size w w' := by
  subst h; exact l5Shared_any a b c d p q r s w
theorem sSideOf_is (a b c d x y z : Int) (w : World) (h : sideV a b c d x y = z) :
    Calls Tryz.prog 140 #[PtV a b, PtV c d, PtV x y] w fun e w' => e = .returned (.int .i64 z) ∧ Below w.heap.size w w' := by
  subst h; exact sSideOf_any a b c d x y w
theorem sides_mul {u v : Int} (hu : u = 1 ∨ u = 0 ∨ u = -1) (hv : v = 1 ∨ v = 0 ∨ v = -1) : IntKind.i64.wrap (u * v) = u * v := by
  rcases hu with rfl | rfl | rfl <;> rcases hv with rfl | rfl | rfl <;> decide
theorem sHowMeet_no (a b c d p q r s : Int) (w : World) (h : ¬ (isS a b c d = true ∧ isS p q r s = true)) :
    Calls Tryz.prog 113 #[SegV a b c d, SegV p q r s] w fun e w' => e = .returned (.int .i64 (howV a b c d p q r s)) ∧ Below w.heap.size w w' := by
  have HE := Lib.hid (how_no h)
  have HB := Lib.hid (Vars.of2 w (SegC a b c d) (SegC p q r s) 78 78)
  go_enter Tryz.func113, Tryz.ntmps113
  cases hs : isS a b c d
  · go_wp2_with fail
    refine (sIsSegment_is a b c d _ _ hs).mono ?_
    rintro e w1 ⟨rfl, hb1⟩
    have HB1 := Lib.hid (HB.out.next hb1)
    clear hb1
    go_wp2
    go_ret
    exact ⟨ret_int HE.out.symm, HB1.out.1⟩
  · have ht : isS p q r s = false := by cases ht : isS p q r s with
      | false => rfl
      | true => exact absurd ⟨hs, ht⟩ h
    go_wp2_with fail
    refine (sIsSegment_is a b c d _ _ hs).mono ?_
    rintro e w1 ⟨rfl, hb1⟩
    have HB1 := Lib.hid (HB.out.next hb1)
    clear hb1 HB
    obtain ⟨k0, k1, k2, k3, k4, k5, k6, k7⟩ := HB1.out.c44
    go_wp2_with fail
    refine (sIsSegment_is p q r s _ _ ht).mono ?_
    rintro e w2 ⟨rfl, hb2⟩
    have HB2 := Lib.hid (HB1.out.next hb2)
    clear hb2
    go_wp2
    go_ret
    exact ⟨ret_int HE.out.symm, HB2.out.1⟩
set_option maxRecDepth 100000 in
set_option maxHeartbeats 4000000 in
theorem sHowMeet_apart1 (a b c d p q r s : Int) (w : World) (hs : isS a b c d = true) (ht : isS p q r s = true) (hx : Apart a b c d p q r s) (h1 : max a c < min p r) :
    Calls Tryz.prog 113 #[SegV a b c d, SegV p q r s] w fun e w' => e = .returned (.int .i64 (howV a b c d p q r s)) ∧ Below w.heap.size w w' := by
  obtain ⟨z, hz⟩ : ∃ z, howV a b c d p q r s = z := ⟨_, rfl⟩
  rw [hz]
  have HE := Lib.hid (hz.symm.trans (how_apart hx))
  clear hx hz
  have HB := Lib.hid (Vars.of2 w (SegC a b c d) (SegC p q r s) 78 78)
  go_enter Tryz.func113, Tryz.ntmps113
  go_wp2_with fail
  refine (sIsSegment_is a b c d _ _ hs).mono ?_
  rintro e w1 ⟨rfl, hb1⟩
  have HB1 := Lib.hid (HB.out.next hb1)
  clear hb1 HB
  obtain ⟨k0, k1, k2, k3, k4, k5, k6, k7⟩ := HB1.out.c44
  go_wp2_with fail
  refine (sIsSegment_is p q r s _ _ ht).mono ?_
  rintro e w2 ⟨rfl, hb2⟩
  have HB2 := Lib.hid (HB1.out.next hb2)
  clear hb2 HB1 k0 k1 k2 k3 k4 k5 k6 k7 hs ht
  obtain ⟨k0, k1, k2, k3, k4, k5, k6, k7⟩ := HB2.out.c44
  go_upto_region 3 with fail
  go_cut [78] (fun s78 wx => s78 = .bool true ∧ Hid (Vars w wx [SegC a b c d, SegC p q r s]))
  case first =>
    have HB2 := Lib.hid HB2.out.drew
    refine wp_region_held_drew (S := (fun w' => w'.cell? ⟨w.heap.size, 0, none⟩ = some (.int .i64 a) ∧ w'.cell? ⟨w.heap.size, 1, none⟩ = some (.int .i64 b) ∧ w'.cell? ⟨w.heap.size, 2, none⟩ = some (.int .i64 c) ∧ w'.cell? ⟨w.heap.size, 3, none⟩ = some (.int .i64 d) ∧ w'.cell? ⟨w.heap.size + 1, 0, none⟩ = some (.int .i64 p) ∧ w'.cell? ⟨w.heap.size + 1, 1, none⟩ = some (.int .i64 q) ∧ w'.cell? ⟨w.heap.size + 1, 2, none⟩ = some (.int .i64 r) ∧ w'.cell? ⟨w.heap.size + 1, 3, none⟩ = some (.int .i64 s))) (by kernel_rfl) HB2.out.c44 (fun hHeld => ?_)
    have d1 : decide (max a c < min p r) = true := decide_eq_true (by omega)
    refine to_lin (T := hm3T) (n := 66) hm3S ⟨by kernel_rfl, by kernel_rfl, by kernel_rfl⟩ (by kernel_rfl) (fun hTag => ?_)
    iterate 12 (refine lin_on (v := ?_) rfl (fun _ _ _ h => h) (by rfl) ?_ (by assumption) ?_; rotate_left; (· (intro wq hSw; go_simp; try with_reducible rfl)); try simp only [Act.put, List.setIfInBounds_toArray, List.set_cons_zero, List.set_cons_succ])
    refine lin_call rfl (by rfl) (fun K hK => ?_)
    go_simp
    go_at_call 112
    refine (smax_mm _ _ _).mono ?_
    rintro e w' ⟨rfl, rfl⟩
    go_wp2_with fail
    refine hK.out _ _ ?_ (fun hHeld => ?_)
    · exact hHeld
    clear hK K
    try simp only [Act.put, List.setIfInBounds_toArray, List.set_cons_zero, List.set_cons_succ]
    refine lin_call rfl (by rfl) (fun K hK => ?_)
    go_simp
    go_at_call 138
    refine (smin_mm _ _ _).mono ?_
    rintro e w' ⟨rfl, rfl⟩
    go_wp2_with fail
    refine hK.out _ _ ?_ (fun hHeld => ?_)
    · exact hHeld
    clear hK K
    try simp only [Act.put, List.setIfInBounds_toArray, List.set_cons_zero, List.set_cons_succ]
    iterate 2 (refine lin_on (v := ?_) rfl (fun _ _ _ h => h) (by rfl) ?_ (by assumption) ?_; rotate_left; (· (intro wq hSw; go_simp; try with_reducible rfl)); try simp only [Act.put, List.setIfInBounds_toArray, List.set_cons_zero, List.set_cons_succ])
    iterate 12 (refine lin_off rfl (fun _ _ _ h => h) (by rfl) (by assumption) ?_; try simp only [Act.put, List.setIfInBounds_toArray, List.set_cons_zero, List.set_cons_succ])
    (refine lin_skip rfl (by rfl) (by assumption) ?_; try simp only [Act.put, List.setIfInBounds_toArray, List.set_cons_zero, List.set_cons_succ])
    (refine lin_skip rfl (by rfl) (by assumption) ?_; try simp only [Act.put, List.setIfInBounds_toArray, List.set_cons_zero, List.set_cons_succ])
    (refine lin_off rfl (fun _ _ _ h => h) (by rfl) (by assumption) ?_; try simp only [Act.put, List.setIfInBounds_toArray, List.set_cons_zero, List.set_cons_succ])
    iterate 2 (refine lin_on (v := ?_) rfl (fun _ _ _ h => h) (by rfl) ?_ (by assumption) ?_; rotate_left; (· (intro wq hSw; go_simp; try with_reducible rfl)); try simp only [Act.put, List.setIfInBounds_toArray, List.set_cons_zero, List.set_cons_succ])
    iterate 12 (refine lin_off rfl (fun _ _ _ h => h) (by rfl) (by assumption) ?_; try simp only [Act.put, List.setIfInBounds_toArray, List.set_cons_zero, List.set_cons_succ])
    (refine lin_skip rfl (by rfl) (by assumption) ?_; try simp only [Act.put, List.setIfInBounds_toArray, List.set_cons_zero, List.set_cons_succ])
    (refine lin_skip rfl (by rfl) (by assumption) ?_; try simp only [Act.put, List.setIfInBounds_toArray, List.set_cons_zero, List.set_cons_succ])
    (refine lin_off rfl (fun _ _ _ h => h) (by rfl) (by assumption) ?_; try simp only [Act.put, List.setIfInBounds_toArray, List.set_cons_zero, List.set_cons_succ])
    iterate 2 (refine lin_on (v := ?_) rfl (fun _ _ _ h => h) (by rfl) ?_ (by assumption) ?_; rotate_left; (· (intro wq hSw; go_simp; try with_reducible rfl)); try simp only [Act.put, List.setIfInBounds_toArray, List.set_cons_zero, List.set_cons_succ])
    iterate 12 (refine lin_off rfl (fun _ _ _ h => h) (by rfl) (by assumption) ?_; try simp only [Act.put, List.setIfInBounds_toArray, List.set_cons_zero, List.set_cons_succ])
    (refine lin_skip rfl (by rfl) (by assumption) ?_; try simp only [Act.put, List.setIfInBounds_toArray, List.set_cons_zero, List.set_cons_succ])
    (refine lin_skip rfl (by rfl) (by assumption) ?_; try simp only [Act.put, List.setIfInBounds_toArray, List.set_cons_zero, List.set_cons_succ])
    (refine lin_off rfl (fun _ _ _ h => h) (by rfl) (by assumption) ?_; try simp only [Act.put, List.setIfInBounds_toArray, List.set_cons_zero, List.set_cons_succ])
    (refine lin_on (v := ?_) rfl (fun _ _ _ h => h) (by rfl) ?_ (by assumption) ?_; rotate_left; (· (intro wq hSw; go_simp; try with_reducible rfl)); try simp only [Act.put, List.setIfInBounds_toArray, List.set_cons_zero, List.set_cons_succ])
    refine lin_done ?_
    go_wp2_with fail
    go_meet
    exact ⟨rfl, HB2⟩
  case rest =>
  obtain ⟨rfl, HB2⟩ := hcut
  clear k0 k1 k2 k3 k4 k5 k6 k7
  obtain ⟨k0, k1, k2, k3, k4, k5, k6, k7⟩ := HB2.out.c44
  go_wp2
  go_ret
  exact ⟨ret_int HE.out.symm, HB2.out.1⟩

set_option maxRecDepth 100000 in
set_option maxHeartbeats 4000000 in
theorem sHowMeet_apart2 (a b c d p q r s : Int) (w : World) (hs : isS a b c d = true) (ht : isS p q r s = true) (hx : Apart a b c d p q r s) (h1 : ¬ max a c < min p r) (h2 : max p r < min a c) :
    Calls Tryz.prog 113 #[SegV a b c d, SegV p q r s] w fun e w' => e = .returned (.int .i64 (howV a b c d p q r s)) ∧ Below w.heap.size w w' := by
  obtain ⟨z, hz⟩ : ∃ z, howV a b c d p q r s = z := ⟨_, rfl⟩
  rw [hz]
  have HE := Lib.hid (hz.symm.trans (how_apart hx))
  clear hx hz
  have HB := Lib.hid (Vars.of2 w (SegC a b c d) (SegC p q r s) 78 78)
  go_enter Tryz.func113, Tryz.ntmps113
  go_wp2_with fail
  refine (sIsSegment_is a b c d _ _ hs).mono ?_
  rintro e w1 ⟨rfl, hb1⟩
  have HB1 := Lib.hid (HB.out.next hb1)
  clear hb1 HB
  obtain ⟨k0, k1, k2, k3, k4, k5, k6, k7⟩ := HB1.out.c44
  go_wp2_with fail
  refine (sIsSegment_is p q r s _ _ ht).mono ?_
  rintro e w2 ⟨rfl, hb2⟩
  have HB2 := Lib.hid (HB1.out.next hb2)
  clear hb2 HB1 k0 k1 k2 k3 k4 k5 k6 k7 hs ht
  obtain ⟨k0, k1, k2, k3, k4, k5, k6, k7⟩ := HB2.out.c44
  go_upto_region 3 with fail
  go_cut [78] (fun s78 wx => s78 = .bool true ∧ Hid (Vars w wx [SegC a b c d, SegC p q r s]))
  case first =>
    have HB2 := Lib.hid HB2.out.drew
    refine wp_region_held_drew (S := (fun w' => w'.cell? ⟨w.heap.size, 0, none⟩ = some (.int .i64 a) ∧ w'.cell? ⟨w.heap.size, 1, none⟩ = some (.int .i64 b) ∧ w'.cell? ⟨w.heap.size, 2, none⟩ = some (.int .i64 c) ∧ w'.cell? ⟨w.heap.size, 3, none⟩ = some (.int .i64 d) ∧ w'.cell? ⟨w.heap.size + 1, 0, none⟩ = some (.int .i64 p) ∧ w'.cell? ⟨w.heap.size + 1, 1, none⟩ = some (.int .i64 q) ∧ w'.cell? ⟨w.heap.size + 1, 2, none⟩ = some (.int .i64 r) ∧ w'.cell? ⟨w.heap.size + 1, 3, none⟩ = some (.int .i64 s))) (by kernel_rfl) HB2.out.c44 (fun hHeld => ?_)
    have d1 : decide (max a c < min p r) = false := decide_eq_false (by omega)
    have d2 : decide (max p r < min a c) = true := decide_eq_true (by omega)
    refine to_lin (T := hm3T) (n := 66) hm3S ⟨by kernel_rfl, by kernel_rfl, by kernel_rfl⟩ (by kernel_rfl) (fun hTag => ?_)
    iterate 12 (refine lin_on (v := ?_) rfl (fun _ _ _ h => h) (by rfl) ?_ (by assumption) ?_; rotate_left; (· (intro wq hSw; go_simp; try with_reducible rfl)); try simp only [Act.put, List.setIfInBounds_toArray, List.set_cons_zero, List.set_cons_succ])
    refine lin_call rfl (by rfl) (fun K hK => ?_)
    go_simp
    go_at_call 112
    refine (smax_mm _ _ _).mono ?_
    rintro e w' ⟨rfl, rfl⟩
    go_wp2_with fail
    refine hK.out _ _ ?_ (fun hHeld => ?_)
    · exact hHeld
    clear hK K
    try simp only [Act.put, List.setIfInBounds_toArray, List.set_cons_zero, List.set_cons_succ]
    refine lin_call rfl (by rfl) (fun K hK => ?_)
    go_simp
    go_at_call 138
    refine (smin_mm _ _ _).mono ?_
    rintro e w' ⟨rfl, rfl⟩
    go_wp2_with fail
    refine hK.out _ _ ?_ (fun hHeld => ?_)
    · exact hHeld
    clear hK K
    try simp only [Act.put, List.setIfInBounds_toArray, List.set_cons_zero, List.set_cons_succ]
    iterate 14 (refine lin_on (v := ?_) rfl (fun _ _ _ h => h) (by rfl) ?_ (by assumption) ?_; rotate_left; (· (intro wq hSw; go_simp; try with_reducible rfl)); try simp only [Act.put, List.setIfInBounds_toArray, List.set_cons_zero, List.set_cons_succ])
    refine lin_call rfl (by rfl) (fun K hK => ?_)
    go_simp
    go_at_call 112
    refine (smax_mm _ _ _).mono ?_
    rintro e w' ⟨rfl, rfl⟩
    go_wp2_with fail
    refine hK.out _ _ ?_ (fun hHeld => ?_)
    · exact hHeld
    clear hK K
    try simp only [Act.put, List.setIfInBounds_toArray, List.set_cons_zero, List.set_cons_succ]
    refine lin_call rfl (by rfl) (fun K hK => ?_)
    go_simp
    go_at_call 138
    refine (smin_mm _ _ _).mono ?_
    rintro e w' ⟨rfl, rfl⟩
    go_wp2_with fail
    refine hK.out _ _ ?_ (fun hHeld => ?_)
    · exact hHeld
    clear hK K
    try simp only [Act.put, List.setIfInBounds_toArray, List.set_cons_zero, List.set_cons_succ]
    iterate 3 (refine lin_on (v := ?_) rfl (fun _ _ _ h => h) (by rfl) ?_ (by assumption) ?_; rotate_left; (· (intro wq hSw; go_simp; try with_reducible rfl)); try simp only [Act.put, List.setIfInBounds_toArray, List.set_cons_zero, List.set_cons_succ])
    iterate 12 (refine lin_off rfl (fun _ _ _ h => h) (by rfl) (by assumption) ?_; try simp only [Act.put, List.setIfInBounds_toArray, List.set_cons_zero, List.set_cons_succ])
    (refine lin_skip rfl (by rfl) (by assumption) ?_; try simp only [Act.put, List.setIfInBounds_toArray, List.set_cons_zero, List.set_cons_succ])
    (refine lin_skip rfl (by rfl) (by assumption) ?_; try simp only [Act.put, List.setIfInBounds_toArray, List.set_cons_zero, List.set_cons_succ])
    (refine lin_off rfl (fun _ _ _ h => h) (by rfl) (by assumption) ?_; try simp only [Act.put, List.setIfInBounds_toArray, List.set_cons_zero, List.set_cons_succ])
    iterate 2 (refine lin_on (v := ?_) rfl (fun _ _ _ h => h) (by rfl) ?_ (by assumption) ?_; rotate_left; (· (intro wq hSw; go_simp; try with_reducible rfl)); try simp only [Act.put, List.setIfInBounds_toArray, List.set_cons_zero, List.set_cons_succ])
    iterate 12 (refine lin_off rfl (fun _ _ _ h => h) (by rfl) (by assumption) ?_; try simp only [Act.put, List.setIfInBounds_toArray, List.set_cons_zero, List.set_cons_succ])
    (refine lin_skip rfl (by rfl) (by assumption) ?_; try simp only [Act.put, List.setIfInBounds_toArray, List.set_cons_zero, List.set_cons_succ])
    (refine lin_skip rfl (by rfl) (by assumption) ?_; try simp only [Act.put, List.setIfInBounds_toArray, List.set_cons_zero, List.set_cons_succ])
    (refine lin_off rfl (fun _ _ _ h => h) (by rfl) (by assumption) ?_; try simp only [Act.put, List.setIfInBounds_toArray, List.set_cons_zero, List.set_cons_succ])
    (refine lin_on (v := ?_) rfl (fun _ _ _ h => h) (by rfl) ?_ (by assumption) ?_; rotate_left; (· (intro wq hSw; go_simp; try with_reducible rfl)); try simp only [Act.put, List.setIfInBounds_toArray, List.set_cons_zero, List.set_cons_succ])
    refine lin_done ?_
    go_wp2_with fail
    go_meet
    exact ⟨rfl, HB2⟩
  case rest =>
  obtain ⟨rfl, HB2⟩ := hcut
  clear k0 k1 k2 k3 k4 k5 k6 k7
  obtain ⟨k0, k1, k2, k3, k4, k5, k6, k7⟩ := HB2.out.c44
  go_wp2
  go_ret
  exact ⟨ret_int HE.out.symm, HB2.out.1⟩

set_option maxRecDepth 100000 in
set_option maxHeartbeats 4000000 in
theorem sHowMeet_apart3 (a b c d p q r s : Int) (w : World) (hs : isS a b c d = true) (ht : isS p q r s = true) (hx : Apart a b c d p q r s) (h1 : ¬ max a c < min p r) (h2 : ¬ max p r < min a c) (h3 : max b d < min q s) :
    Calls Tryz.prog 113 #[SegV a b c d, SegV p q r s] w fun e w' => e = .returned (.int .i64 (howV a b c d p q r s)) ∧ Below w.heap.size w w' := by
  obtain ⟨z, hz⟩ : ∃ z, howV a b c d p q r s = z := ⟨_, rfl⟩
  rw [hz]
  have HE := Lib.hid (hz.symm.trans (how_apart hx))
  clear hx hz
  have HB := Lib.hid (Vars.of2 w (SegC a b c d) (SegC p q r s) 78 78)
  go_enter Tryz.func113, Tryz.ntmps113
  go_wp2_with fail
  refine (sIsSegment_is a b c d _ _ hs).mono ?_
  rintro e w1 ⟨rfl, hb1⟩
  have HB1 := Lib.hid (HB.out.next hb1)
  clear hb1 HB
  obtain ⟨k0, k1, k2, k3, k4, k5, k6, k7⟩ := HB1.out.c44
  go_wp2_with fail
  refine (sIsSegment_is p q r s _ _ ht).mono ?_
  rintro e w2 ⟨rfl, hb2⟩
  have HB2 := Lib.hid (HB1.out.next hb2)
  clear hb2 HB1 k0 k1 k2 k3 k4 k5 k6 k7 hs ht
  obtain ⟨k0, k1, k2, k3, k4, k5, k6, k7⟩ := HB2.out.c44
  go_upto_region 3 with fail
  go_cut [78] (fun s78 wx => s78 = .bool true ∧ Hid (Vars w wx [SegC a b c d, SegC p q r s]))
  case first =>
    have HB2 := Lib.hid HB2.out.drew
    refine wp_region_held_drew (S := (fun w' => w'.cell? ⟨w.heap.size, 0, none⟩ = some (.int .i64 a) ∧ w'.cell? ⟨w.heap.size, 1, none⟩ = some (.int .i64 b) ∧ w'.cell? ⟨w.heap.size, 2, none⟩ = some (.int .i64 c) ∧ w'.cell? ⟨w.heap.size, 3, none⟩ = some (.int .i64 d) ∧ w'.cell? ⟨w.heap.size + 1, 0, none⟩ = some (.int .i64 p) ∧ w'.cell? ⟨w.heap.size + 1, 1, none⟩ = some (.int .i64 q) ∧ w'.cell? ⟨w.heap.size + 1, 2, none⟩ = some (.int .i64 r) ∧ w'.cell? ⟨w.heap.size + 1, 3, none⟩ = some (.int .i64 s))) (by kernel_rfl) HB2.out.c44 (fun hHeld => ?_)
    have d1 : decide (max a c < min p r) = false := decide_eq_false (by omega)
    have d2 : decide (max p r < min a c) = false := decide_eq_false (by omega)
    have d3 : decide (max b d < min q s) = true := decide_eq_true (by omega)
    refine to_lin (T := hm3T) (n := 66) hm3S ⟨by kernel_rfl, by kernel_rfl, by kernel_rfl⟩ (by kernel_rfl) (fun hTag => ?_)
    iterate 12 (refine lin_on (v := ?_) rfl (fun _ _ _ h => h) (by rfl) ?_ (by assumption) ?_; rotate_left; (· (intro wq hSw; go_simp; try with_reducible rfl)); try simp only [Act.put, List.setIfInBounds_toArray, List.set_cons_zero, List.set_cons_succ])
    refine lin_call rfl (by rfl) (fun K hK => ?_)
    go_simp
    go_at_call 112
    refine (smax_mm _ _ _).mono ?_
    rintro e w' ⟨rfl, rfl⟩
    go_wp2_with fail
    refine hK.out _ _ ?_ (fun hHeld => ?_)
    · exact hHeld
    clear hK K
    try simp only [Act.put, List.setIfInBounds_toArray, List.set_cons_zero, List.set_cons_succ]
    refine lin_call rfl (by rfl) (fun K hK => ?_)
    go_simp
    go_at_call 138
    refine (smin_mm _ _ _).mono ?_
    rintro e w' ⟨rfl, rfl⟩
    go_wp2_with fail
    refine hK.out _ _ ?_ (fun hHeld => ?_)
    · exact hHeld
    clear hK K
    try simp only [Act.put, List.setIfInBounds_toArray, List.set_cons_zero, List.set_cons_succ]
    iterate 14 (refine lin_on (v := ?_) rfl (fun _ _ _ h => h) (by rfl) ?_ (by assumption) ?_; rotate_left; (· (intro wq hSw; go_simp; try with_reducible rfl)); try simp only [Act.put, List.setIfInBounds_toArray, List.set_cons_zero, List.set_cons_succ])
    refine lin_call rfl (by rfl) (fun K hK => ?_)
    go_simp
    go_at_call 112
    refine (smax_mm _ _ _).mono ?_
    rintro e w' ⟨rfl, rfl⟩
    go_wp2_with fail
    refine hK.out _ _ ?_ (fun hHeld => ?_)
    · exact hHeld
    clear hK K
    try simp only [Act.put, List.setIfInBounds_toArray, List.set_cons_zero, List.set_cons_succ]
    refine lin_call rfl (by rfl) (fun K hK => ?_)
    go_simp
    go_at_call 138
    refine (smin_mm _ _ _).mono ?_
    rintro e w' ⟨rfl, rfl⟩
    go_wp2_with fail
    refine hK.out _ _ ?_ (fun hHeld => ?_)
    · exact hHeld
    clear hK K
    try simp only [Act.put, List.setIfInBounds_toArray, List.set_cons_zero, List.set_cons_succ]
    iterate 15 (refine lin_on (v := ?_) rfl (fun _ _ _ h => h) (by rfl) ?_ (by assumption) ?_; rotate_left; (· (intro wq hSw; go_simp; try with_reducible rfl)); try simp only [Act.put, List.setIfInBounds_toArray, List.set_cons_zero, List.set_cons_succ])
    refine lin_call rfl (by rfl) (fun K hK => ?_)
    go_simp
    go_at_call 112
    refine (smax_mm _ _ _).mono ?_
    rintro e w' ⟨rfl, rfl⟩
    go_wp2_with fail
    refine hK.out _ _ ?_ (fun hHeld => ?_)
    · exact hHeld
    clear hK K
    try simp only [Act.put, List.setIfInBounds_toArray, List.set_cons_zero, List.set_cons_succ]
    refine lin_call rfl (by rfl) (fun K hK => ?_)
    go_simp
    go_at_call 138
    refine (smin_mm _ _ _).mono ?_
    rintro e w' ⟨rfl, rfl⟩
    go_wp2_with fail
    refine hK.out _ _ ?_ (fun hHeld => ?_)
    · exact hHeld
    clear hK K
    try simp only [Act.put, List.setIfInBounds_toArray, List.set_cons_zero, List.set_cons_succ]
    iterate 3 (refine lin_on (v := ?_) rfl (fun _ _ _ h => h) (by rfl) ?_ (by assumption) ?_; rotate_left; (· (intro wq hSw; go_simp; try with_reducible rfl)); try simp only [Act.put, List.setIfInBounds_toArray, List.set_cons_zero, List.set_cons_succ])
    iterate 12 (refine lin_off rfl (fun _ _ _ h => h) (by rfl) (by assumption) ?_; try simp only [Act.put, List.setIfInBounds_toArray, List.set_cons_zero, List.set_cons_succ])
    (refine lin_skip rfl (by rfl) (by assumption) ?_; try simp only [Act.put, List.setIfInBounds_toArray, List.set_cons_zero, List.set_cons_succ])
    (refine lin_skip rfl (by rfl) (by assumption) ?_; try simp only [Act.put, List.setIfInBounds_toArray, List.set_cons_zero, List.set_cons_succ])
    (refine lin_off rfl (fun _ _ _ h => h) (by rfl) (by assumption) ?_; try simp only [Act.put, List.setIfInBounds_toArray, List.set_cons_zero, List.set_cons_succ])
    (refine lin_on (v := ?_) rfl (fun _ _ _ h => h) (by rfl) ?_ (by assumption) ?_; rotate_left; (· (intro wq hSw; go_simp; try with_reducible rfl)); try simp only [Act.put, List.setIfInBounds_toArray, List.set_cons_zero, List.set_cons_succ])
    refine lin_done ?_
    go_wp2_with fail
    go_meet
    exact ⟨rfl, HB2⟩
  case rest =>
  obtain ⟨rfl, HB2⟩ := hcut
  clear k0 k1 k2 k3 k4 k5 k6 k7
  obtain ⟨k0, k1, k2, k3, k4, k5, k6, k7⟩ := HB2.out.c44
  go_wp2
  go_ret
  exact ⟨ret_int HE.out.symm, HB2.out.1⟩

set_option maxRecDepth 100000 in
set_option maxHeartbeats 4000000 in
theorem sHowMeet_apart4 (a b c d p q r s : Int) (w : World) (hs : isS a b c d = true) (ht : isS p q r s = true) (hx : Apart a b c d p q r s) (h1 : ¬ max a c < min p r) (h2 : ¬ max p r < min a c) (h3 : ¬ max b d < min q s) (h4 : max q s < min b d) :
    Calls Tryz.prog 113 #[SegV a b c d, SegV p q r s] w fun e w' => e = .returned (.int .i64 (howV a b c d p q r s)) ∧ Below w.heap.size w w' := by
  obtain ⟨z, hz⟩ : ∃ z, howV a b c d p q r s = z := ⟨_, rfl⟩
  rw [hz]
  have HE := Lib.hid (hz.symm.trans (how_apart hx))
  clear hx hz
  have HB := Lib.hid (Vars.of2 w (SegC a b c d) (SegC p q r s) 78 78)
  go_enter Tryz.func113, Tryz.ntmps113
  go_wp2_with fail
  refine (sIsSegment_is a b c d _ _ hs).mono ?_
  rintro e w1 ⟨rfl, hb1⟩
  have HB1 := Lib.hid (HB.out.next hb1)
  clear hb1 HB
  obtain ⟨k0, k1, k2, k3, k4, k5, k6, k7⟩ := HB1.out.c44
  go_wp2_with fail
  refine (sIsSegment_is p q r s _ _ ht).mono ?_
  rintro e w2 ⟨rfl, hb2⟩
  have HB2 := Lib.hid (HB1.out.next hb2)
  clear hb2 HB1 k0 k1 k2 k3 k4 k5 k6 k7 hs ht
  obtain ⟨k0, k1, k2, k3, k4, k5, k6, k7⟩ := HB2.out.c44
  go_upto_region 3 with fail
  go_cut [78] (fun s78 wx => s78 = .bool true ∧ Hid (Vars w wx [SegC a b c d, SegC p q r s]))
  case first =>
    have HB2 := Lib.hid HB2.out.drew
    refine wp_region_held_drew (S := (fun w' => w'.cell? ⟨w.heap.size, 0, none⟩ = some (.int .i64 a) ∧ w'.cell? ⟨w.heap.size, 1, none⟩ = some (.int .i64 b) ∧ w'.cell? ⟨w.heap.size, 2, none⟩ = some (.int .i64 c) ∧ w'.cell? ⟨w.heap.size, 3, none⟩ = some (.int .i64 d) ∧ w'.cell? ⟨w.heap.size + 1, 0, none⟩ = some (.int .i64 p) ∧ w'.cell? ⟨w.heap.size + 1, 1, none⟩ = some (.int .i64 q) ∧ w'.cell? ⟨w.heap.size + 1, 2, none⟩ = some (.int .i64 r) ∧ w'.cell? ⟨w.heap.size + 1, 3, none⟩ = some (.int .i64 s))) (by kernel_rfl) HB2.out.c44 (fun hHeld => ?_)
    have d1 : decide (max a c < min p r) = false := decide_eq_false (by omega)
    have d2 : decide (max p r < min a c) = false := decide_eq_false (by omega)
    have d3 : decide (max b d < min q s) = false := decide_eq_false (by omega)
    have d4 : decide (max q s < min b d) = true := decide_eq_true (by omega)
    refine to_lin (T := hm3T) (n := 66) hm3S ⟨by kernel_rfl, by kernel_rfl, by kernel_rfl⟩ (by kernel_rfl) (fun hTag => ?_)
    iterate 12 (refine lin_on (v := ?_) rfl (fun _ _ _ h => h) (by rfl) ?_ (by assumption) ?_; rotate_left; (· (intro wq hSw; go_simp; try with_reducible rfl)); try simp only [Act.put, List.setIfInBounds_toArray, List.set_cons_zero, List.set_cons_succ])
    refine lin_call rfl (by rfl) (fun K hK => ?_)
    go_simp
    go_at_call 112
    refine (smax_mm _ _ _).mono ?_
    rintro e w' ⟨rfl, rfl⟩
    go_wp2_with fail
    refine hK.out _ _ ?_ (fun hHeld => ?_)
    · exact hHeld
    clear hK K
    try simp only [Act.put, List.setIfInBounds_toArray, List.set_cons_zero, List.set_cons_succ]
    refine lin_call rfl (by rfl) (fun K hK => ?_)
    go_simp
    go_at_call 138
    refine (smin_mm _ _ _).mono ?_
    rintro e w' ⟨rfl, rfl⟩
    go_wp2_with fail
    refine hK.out _ _ ?_ (fun hHeld => ?_)
    · exact hHeld
    clear hK K
    try simp only [Act.put, List.setIfInBounds_toArray, List.set_cons_zero, List.set_cons_succ]
    iterate 14 (refine lin_on (v := ?_) rfl (fun _ _ _ h => h) (by rfl) ?_ (by assumption) ?_; rotate_left; (· (intro wq hSw; go_simp; try with_reducible rfl)); try simp only [Act.put, List.setIfInBounds_toArray, List.set_cons_zero, List.set_cons_succ])
    refine lin_call rfl (by rfl) (fun K hK => ?_)
    go_simp
    go_at_call 112
    refine (smax_mm _ _ _).mono ?_
    rintro e w' ⟨rfl, rfl⟩
    go_wp2_with fail
    refine hK.out _ _ ?_ (fun hHeld => ?_)
    · exact hHeld
    clear hK K
    try simp only [Act.put, List.setIfInBounds_toArray, List.set_cons_zero, List.set_cons_succ]
    refine lin_call rfl (by rfl) (fun K hK => ?_)
    go_simp
    go_at_call 138
    refine (smin_mm _ _ _).mono ?_
    rintro e w' ⟨rfl, rfl⟩
    go_wp2_with fail
    refine hK.out _ _ ?_ (fun hHeld => ?_)
    · exact hHeld
    clear hK K
    try simp only [Act.put, List.setIfInBounds_toArray, List.set_cons_zero, List.set_cons_succ]
    iterate 15 (refine lin_on (v := ?_) rfl (fun _ _ _ h => h) (by rfl) ?_ (by assumption) ?_; rotate_left; (· (intro wq hSw; go_simp; try with_reducible rfl)); try simp only [Act.put, List.setIfInBounds_toArray, List.set_cons_zero, List.set_cons_succ])
    refine lin_call rfl (by rfl) (fun K hK => ?_)
    go_simp
    go_at_call 112
    refine (smax_mm _ _ _).mono ?_
    rintro e w' ⟨rfl, rfl⟩
    go_wp2_with fail
    refine hK.out _ _ ?_ (fun hHeld => ?_)
    · exact hHeld
    clear hK K
    try simp only [Act.put, List.setIfInBounds_toArray, List.set_cons_zero, List.set_cons_succ]
    refine lin_call rfl (by rfl) (fun K hK => ?_)
    go_simp
    go_at_call 138
    refine (smin_mm _ _ _).mono ?_
    rintro e w' ⟨rfl, rfl⟩
    go_wp2_with fail
    refine hK.out _ _ ?_ (fun hHeld => ?_)
    · exact hHeld
    clear hK K
    try simp only [Act.put, List.setIfInBounds_toArray, List.set_cons_zero, List.set_cons_succ]
    iterate 15 (refine lin_on (v := ?_) rfl (fun _ _ _ h => h) (by rfl) ?_ (by assumption) ?_; rotate_left; (· (intro wq hSw; go_simp; try with_reducible rfl)); try simp only [Act.put, List.setIfInBounds_toArray, List.set_cons_zero, List.set_cons_succ])
    refine lin_call rfl (by rfl) (fun K hK => ?_)
    go_simp
    go_at_call 112
    refine (smax_mm _ _ _).mono ?_
    rintro e w' ⟨rfl, rfl⟩
    go_wp2_with fail
    refine hK.out _ _ ?_ (fun hHeld => ?_)
    · exact hHeld
    clear hK K
    try simp only [Act.put, List.setIfInBounds_toArray, List.set_cons_zero, List.set_cons_succ]
    refine lin_call rfl (by rfl) (fun K hK => ?_)
    go_simp
    go_at_call 138
    refine (smin_mm _ _ _).mono ?_
    rintro e w' ⟨rfl, rfl⟩
    go_wp2_with fail
    refine hK.out _ _ ?_ (fun hHeld => ?_)
    · exact hHeld
    clear hK K
    try simp only [Act.put, List.setIfInBounds_toArray, List.set_cons_zero, List.set_cons_succ]
    iterate 2 (refine lin_on (v := ?_) rfl (fun _ _ _ h => h) (by rfl) ?_ (by assumption) ?_; rotate_left; (· (intro wq hSw; go_simp; try with_reducible rfl)); try simp only [Act.put, List.setIfInBounds_toArray, List.set_cons_zero, List.set_cons_succ])
    refine lin_done ?_
    go_wp2_with fail
    go_meet
    exact ⟨rfl, HB2⟩
  case rest =>
  obtain ⟨rfl, HB2⟩ := hcut
  clear k0 k1 k2 k3 k4 k5 k6 k7
  obtain ⟨k0, k1, k2, k3, k4, k5, k6, k7⟩ := HB2.out.c44
  go_wp2
  go_ret
  exact ⟨ret_int HE.out.symm, HB2.out.1⟩

end Go.Proofs.YtbnjaaegbmhopaaGreatDoor
end
section
/- Segments: how two segments meet, in the model: those that do not lie apart. -/
namespace Go.Proofs.YtbnjaaegbmhopaaGreatDoor
open Go.ChangeShapes Go.WideShapes Go.ChangeAt Go.RowKit
set_option linter.unusedVariables false

set_option maxRecDepth 100000 in
set_option maxHeartbeats 4000000 in
theorem sHowMeet_one (a b c d p q r s : Int) (w : World) (hs : isS a b c d = true) (ht : isS p q r s = true) (hx : ¬ Apart a b c d p q r s) (e0 : (shL a b c d p q r s).length = 1) (e2 : howV a b c d p q r s = 1) :
    Calls Tryz.prog 113 #[SegV a b c d, SegV p q r s] w fun e w' => e = .returned (.int .i64 (howV a b c d p q r s)) ∧ Below w.heap.size w w' := by
  obtain ⟨z, hz⟩ : ∃ z, howV a b c d p q r s = z := ⟨_, rfl⟩
  rw [hz]
  have hx4 : ¬ max a c < min p r ∧ ¬ max p r < min a c ∧ ¬ max b d < min q s ∧ ¬ max q s < min b d := by
    unfold Apart at hx; omega
  obtain ⟨h1, h2, h3, h4⟩ := hx4
  have HE := Lib.hid (hz.symm.trans e2)
  have HN := Lib.hid e0
  clear hx hz e0 e2
  have HB := Lib.hid (Vars.of2 w (SegC a b c d) (SegC p q r s) 78 78)
  go_enter Tryz.func113, Tryz.ntmps113
  go_wp2_with fail
  refine (sIsSegment_is a b c d _ _ hs).mono ?_
  rintro e w1 ⟨rfl, hb1⟩
  have HB1 := Lib.hid (HB.out.next hb1)
  clear hb1 HB
  obtain ⟨k0, k1, k2, k3, k4, k5, k6, k7⟩ := HB1.out.c44
  go_wp2_with fail
  refine (sIsSegment_is p q r s _ _ ht).mono ?_
  rintro e w2 ⟨rfl, hb2⟩
  have HB2 := Lib.hid (HB1.out.next hb2)
  clear hb2 HB1 k0 k1 k2 k3 k4 k5 k6 k7 hs ht
  obtain ⟨k0, k1, k2, k3, k4, k5, k6, k7⟩ := HB2.out.c44
  go_upto_region 3 with fail
  go_cut [78] (fun s78 wx => s78 = .bool false ∧ Hid (Vars w wx [SegC a b c d, SegC p q r s]))
  case first =>
    have HB2 := Lib.hid HB2.out.drew
    refine wp_region_held_drew (S := (fun w' => w'.cell? ⟨w.heap.size, 0, none⟩ = some (.int .i64 a) ∧ w'.cell? ⟨w.heap.size, 1, none⟩ = some (.int .i64 b) ∧ w'.cell? ⟨w.heap.size, 2, none⟩ = some (.int .i64 c) ∧ w'.cell? ⟨w.heap.size, 3, none⟩ = some (.int .i64 d) ∧ w'.cell? ⟨w.heap.size + 1, 0, none⟩ = some (.int .i64 p) ∧ w'.cell? ⟨w.heap.size + 1, 1, none⟩ = some (.int .i64 q) ∧ w'.cell? ⟨w.heap.size + 1, 2, none⟩ = some (.int .i64 r) ∧ w'.cell? ⟨w.heap.size + 1, 3, none⟩ = some (.int .i64 s))) (by kernel_rfl) HB2.out.c44 (fun hHeld => ?_)
    have d1 : decide (max a c < min p r) = false := decide_eq_false (by omega)
    have d2 : decide (max p r < min a c) = false := decide_eq_false (by omega)
    have d3 : decide (max b d < min q s) = false := decide_eq_false (by omega)
    have d4 : decide (max q s < min b d) = false := decide_eq_false (by omega)
    refine to_lin (T := hm3T) (n := 66) hm3S ⟨by kernel_rfl, by kernel_rfl, by kernel_rfl⟩ (by kernel_rfl) (fun hTag => ?_)
    iterate 12 (refine lin_on (v := ?_) rfl (fun _ _ _ h => h) (by rfl) ?_ (by assumption) ?_; rotate_left; (· (intro wq hSw; go_simp; try with_reducible rfl)); try simp only [Act.put, List.setIfInBounds_toArray, List.set_cons_zero, List.set_cons_succ])
    refine lin_call rfl (by rfl) (fun K hK => ?_)
    go_simp
    go_at_call 112
    refine (smax_mm _ _ _).mono ?_
    rintro e w' ⟨rfl, rfl⟩
    go_wp2_with fail
    refine hK.out _ _ ?_ (fun hHeld => ?_)
    · exact hHeld
    clear hK K
    try simp only [Act.put, List.setIfInBounds_toArray, List.set_cons_zero, List.set_cons_succ]
    refine lin_call rfl (by rfl) (fun K hK => ?_)
    go_simp
    go_at_call 138
    refine (smin_mm _ _ _).mono ?_
    rintro e w' ⟨rfl, rfl⟩
    go_wp2_with fail
    refine hK.out _ _ ?_ (fun hHeld => ?_)
    · exact hHeld
    clear hK K
    try simp only [Act.put, List.setIfInBounds_toArray, List.set_cons_zero, List.set_cons_succ]
    iterate 14 (refine lin_on (v := ?_) rfl (fun _ _ _ h => h) (by rfl) ?_ (by assumption) ?_; rotate_left; (· (intro wq hSw; go_simp; try with_reducible rfl)); try simp only [Act.put, List.setIfInBounds_toArray, List.set_cons_zero, List.set_cons_succ])
    refine lin_call rfl (by rfl) (fun K hK => ?_)
    go_simp
    go_at_call 112
    refine (smax_mm _ _ _).mono ?_
    rintro e w' ⟨rfl, rfl⟩
    go_wp2_with fail
    refine hK.out _ _ ?_ (fun hHeld => ?_)
    · exact hHeld
    clear hK K
    try simp only [Act.put, List.setIfInBounds_toArray, List.set_cons_zero, List.set_cons_succ]
    refine lin_call rfl (by rfl) (fun K hK => ?_)
    go_simp
    go_at_call 138
    refine (smin_mm _ _ _).mono ?_
    rintro e w' ⟨rfl, rfl⟩
    go_wp2_with fail
    refine hK.out _ _ ?_ (fun hHeld => ?_)
    · exact hHeld
    clear hK K
    try simp only [Act.put, List.setIfInBounds_toArray, List.set_cons_zero, List.set_cons_succ]
    iterate 15 (refine lin_on (v := ?_) rfl (fun _ _ _ h => h) (by rfl) ?_ (by assumption) ?_; rotate_left; (· (intro wq hSw; go_simp; try with_reducible rfl)); try simp only [Act.put, List.setIfInBounds_toArray, List.set_cons_zero, List.set_cons_succ])
    refine lin_call rfl (by rfl) (fun K hK => ?_)
    go_simp
    go_at_call 112
    refine (smax_mm _ _ _).mono ?_
    rintro e w' ⟨rfl, rfl⟩
    go_wp2_with fail
    refine hK.out _ _ ?_ (fun hHeld => ?_)
    · exact hHeld
    clear hK K
    try simp only [Act.put, List.setIfInBounds_toArray, List.set_cons_zero, List.set_cons_succ]
    refine lin_call rfl (by rfl) (fun K hK => ?_)
    go_simp
    go_at_call 138
    refine (smin_mm _ _ _).mono ?_
    rintro e w' ⟨rfl, rfl⟩
    go_wp2_with fail
    refine hK.out _ _ ?_ (fun hHeld => ?_)
    · exact hHeld
    clear hK K
    try simp only [Act.put, List.setIfInBounds_toArray, List.set_cons_zero, List.set_cons_succ]
    iterate 15 (refine lin_on (v := ?_) rfl (fun _ _ _ h => h) (by rfl) ?_ (by assumption) ?_; rotate_left; (· (intro wq hSw; go_simp; try with_reducible rfl)); try simp only [Act.put, List.setIfInBounds_toArray, List.set_cons_zero, List.set_cons_succ])
    refine lin_call rfl (by rfl) (fun K hK => ?_)
    go_simp
    go_at_call 112
    refine (smax_mm _ _ _).mono ?_
    rintro e w' ⟨rfl, rfl⟩
    go_wp2_with fail
    refine hK.out _ _ ?_ (fun hHeld => ?_)
    · exact hHeld
    clear hK K
    try simp only [Act.put, List.setIfInBounds_toArray, List.set_cons_zero, List.set_cons_succ]
    refine lin_call rfl (by rfl) (fun K hK => ?_)
    go_simp
    go_at_call 138
    refine (smin_mm _ _ _).mono ?_
    rintro e w' ⟨rfl, rfl⟩
    go_wp2_with fail
    refine hK.out _ _ ?_ (fun hHeld => ?_)
    · exact hHeld
    clear hK K
    try simp only [Act.put, List.setIfInBounds_toArray, List.set_cons_zero, List.set_cons_succ]
    iterate 2 (refine lin_on (v := ?_) rfl (fun _ _ _ h => h) (by rfl) ?_ (by assumption) ?_; rotate_left; (· (intro wq hSw; go_simp; try with_reducible rfl)); try simp only [Act.put, List.setIfInBounds_toArray, List.set_cons_zero, List.set_cons_succ])
    refine lin_done ?_
    go_wp2_with fail
    go_meet
    exact ⟨rfl, HB2⟩
  case rest =>
  obtain ⟨rfl, HB2⟩ := hcut
  clear k0 k1 k2 k3 k4 k5 k6 k7
  obtain ⟨k0, k1, k2, k3, k4, k5, k6, k7⟩ := HB2.out.c44
  clear h1 h2 h3 h4
  go_wp2_with fail
  refine (l5Shared_is a b c d p q r s 1 _ HN.out).mono ?_
  rintro e w3 ⟨rfl, hb3⟩
  have HB := Lib.hid (HB2.out.next hb3)
  clear hb3 HB2 HN k0 k1 k2 k3 k4 k5 k6 k7
  go_wp2
  go_ret
  exact ⟨ret_int HE.out.symm, HB.out.1⟩

set_option maxRecDepth 100000 in
set_option maxHeartbeats 4000000 in
theorem sHowMeet_many (a b c d p q r s : Int) (w : World) (hs : isS a b c d = true) (ht : isS p q r s = true) (hx : ¬ Apart a b c d p q r s) (e0 : 2 ≤ (shL a b c d p q r s).length) (e2 : howV a b c d p q r s = 3) :
    Calls Tryz.prog 113 #[SegV a b c d, SegV p q r s] w fun e w' => e = .returned (.int .i64 (howV a b c d p q r s)) ∧ Below w.heap.size w w' := by
  obtain ⟨z, hz⟩ : ∃ z, howV a b c d p q r s = z := ⟨_, rfl⟩
  rw [hz]
  have hx4 : ¬ max a c < min p r ∧ ¬ max p r < min a c ∧ ¬ max b d < min q s ∧ ¬ max q s < min b d := by
    unfold Apart at hx; omega
  obtain ⟨h1, h2, h3, h4⟩ := hx4
  have HE := Lib.hid (hz.symm.trans e2)
  have HN := Lib.hid e0
  clear hx hz e0 e2
  obtain ⟨n, hn⟩ : ∃ n, (shL a b c d p q r s).length = n := ⟨_, rfl⟩
  have h2n := HN.out
  rw [hn] at h2n
  clear HN
  have HN := Lib.hid hn
  clear hn
  have HB := Lib.hid (Vars.of2 w (SegC a b c d) (SegC p q r s) 78 78)
  go_enter Tryz.func113, Tryz.ntmps113
  go_wp2_with fail
  refine (sIsSegment_is a b c d _ _ hs).mono ?_
  rintro e w1 ⟨rfl, hb1⟩
  have HB1 := Lib.hid (HB.out.next hb1)
  clear hb1 HB
  obtain ⟨k0, k1, k2, k3, k4, k5, k6, k7⟩ := HB1.out.c44
  go_wp2_with fail
  refine (sIsSegment_is p q r s _ _ ht).mono ?_
  rintro e w2 ⟨rfl, hb2⟩
  have HB2 := Lib.hid (HB1.out.next hb2)
  clear hb2 HB1 k0 k1 k2 k3 k4 k5 k6 k7 hs ht
  obtain ⟨k0, k1, k2, k3, k4, k5, k6, k7⟩ := HB2.out.c44
  go_upto_region 3 with fail
  go_cut [78] (fun s78 wx => s78 = .bool false ∧ Hid (Vars w wx [SegC a b c d, SegC p q r s]))
  case first =>
    have HB2 := Lib.hid HB2.out.drew
    refine wp_region_held_drew (S := (fun w' => w'.cell? ⟨w.heap.size, 0, none⟩ = some (.int .i64 a) ∧ w'.cell? ⟨w.heap.size, 1, none⟩ = some (.int .i64 b) ∧ w'.cell? ⟨w.heap.size, 2, none⟩ = some (.int .i64 c) ∧ w'.cell? ⟨w.heap.size, 3, none⟩ = some (.int .i64 d) ∧ w'.cell? ⟨w.heap.size + 1, 0, none⟩ = some (.int .i64 p) ∧ w'.cell? ⟨w.heap.size + 1, 1, none⟩ = some (.int .i64 q) ∧ w'.cell? ⟨w.heap.size + 1, 2, none⟩ = some (.int .i64 r) ∧ w'.cell? ⟨w.heap.size + 1, 3, none⟩ = some (.int .i64 s))) (by kernel_rfl) HB2.out.c44 (fun hHeld => ?_)
    have d1 : decide (max a c < min p r) = false := decide_eq_false (by omega)
    have d2 : decide (max p r < min a c) = false := decide_eq_false (by omega)
    have d3 : decide (max b d < min q s) = false := decide_eq_false (by omega)
    have d4 : decide (max q s < min b d) = false := decide_eq_false (by omega)
    refine to_lin (T := hm3T) (n := 66) hm3S ⟨by kernel_rfl, by kernel_rfl, by kernel_rfl⟩ (by kernel_rfl) (fun hTag => ?_)
    iterate 12 (refine lin_on (v := ?_) rfl (fun _ _ _ h => h) (by rfl) ?_ (by assumption) ?_; rotate_left; (· (intro wq hSw; go_simp; try with_reducible rfl)); try simp only [Act.put, List.setIfInBounds_toArray, List.set_cons_zero, List.set_cons_succ])
    refine lin_call rfl (by rfl) (fun K hK => ?_)
    go_simp
    go_at_call 112
    refine (smax_mm _ _ _).mono ?_
    rintro e w' ⟨rfl, rfl⟩
    go_wp2_with fail
    refine hK.out _ _ ?_ (fun hHeld => ?_)
    · exact hHeld
    clear hK K
    try simp only [Act.put, List.setIfInBounds_toArray, List.set_cons_zero, List.set_cons_succ]
    refine lin_call rfl (by rfl) (fun K hK => ?_)
    go_simp
    go_at_call 138
    refine (smin_mm _ _ _).mono ?_
    rintro e w' ⟨rfl, rfl⟩
    go_wp2_with fail
    refine hK.out _ _ ?_ (fun hHeld => ?_)
    · exact hHeld
    clear hK K
    try simp only [Act.put, List.setIfInBounds_toArray, List.set_cons_zero, List.set_cons_succ]
    iterate 14 (refine lin_on (v := ?_) rfl (fun _ _ _ h => h) (by rfl) ?_ (by assumption) ?_; rotate_left; (· (intro wq hSw; go_simp; try with_reducible rfl)); try simp only [Act.put, List.setIfInBounds_toArray, List.set_cons_zero, List.set_cons_succ])
    refine lin_call rfl (by rfl) (fun K hK => ?_)
    go_simp
    go_at_call 112
    refine (smax_mm _ _ _).mono ?_
    rintro e w' ⟨rfl, rfl⟩
    go_wp2_with fail
    refine hK.out _ _ ?_ (fun hHeld => ?_)
    · exact hHeld
    clear hK K
    try simp only [Act.put, List.setIfInBounds_toArray, List.set_cons_zero, List.set_cons_succ]
    refine lin_call rfl (by rfl) (fun K hK => ?_)
    go_simp
    go_at_call 138
    refine (smin_mm _ _ _).mono ?_
    rintro e w' ⟨rfl, rfl⟩
    go_wp2_with fail
    refine hK.out _ _ ?_ (fun hHeld => ?_)
    · exact hHeld
    clear hK K
    try simp only [Act.put, List.setIfInBounds_toArray, List.set_cons_zero, List.set_cons_succ]
    iterate 15 (refine lin_on (v := ?_) rfl (fun _ _ _ h => h) (by rfl) ?_ (by assumption) ?_; rotate_left; (· (intro wq hSw; go_simp; try with_reducible rfl)); try simp only [Act.put, List.setIfInBounds_toArray, List.set_cons_zero, List.set_cons_succ])
    refine lin_call rfl (by rfl) (fun K hK => ?_)
    go_simp
    go_at_call 112
    refine (smax_mm _ _ _).mono ?_
    rintro e w' ⟨rfl, rfl⟩
    go_wp2_with fail
    refine hK.out _ _ ?_ (fun hHeld => ?_)
    · exact hHeld
    clear hK K
    try simp only [Act.put, List.setIfInBounds_toArray, List.set_cons_zero, List.set_cons_succ]
    refine lin_call rfl (by rfl) (fun K hK => ?_)
    go_simp
    go_at_call 138
    refine (smin_mm _ _ _).mono ?_
    rintro e w' ⟨rfl, rfl⟩
    go_wp2_with fail
    refine hK.out _ _ ?_ (fun hHeld => ?_)
    · exact hHeld
    clear hK K
    try simp only [Act.put, List.setIfInBounds_toArray, List.set_cons_zero, List.set_cons_succ]
    iterate 15 (refine lin_on (v := ?_) rfl (fun _ _ _ h => h) (by rfl) ?_ (by assumption) ?_; rotate_left; (· (intro wq hSw; go_simp; try with_reducible rfl)); try simp only [Act.put, List.setIfInBounds_toArray, List.set_cons_zero, List.set_cons_succ])
    refine lin_call rfl (by rfl) (fun K hK => ?_)
    go_simp
    go_at_call 112
    refine (smax_mm _ _ _).mono ?_
    rintro e w' ⟨rfl, rfl⟩
    go_wp2_with fail
    refine hK.out _ _ ?_ (fun hHeld => ?_)
    · exact hHeld
    clear hK K
    try simp only [Act.put, List.setIfInBounds_toArray, List.set_cons_zero, List.set_cons_succ]
    refine lin_call rfl (by rfl) (fun K hK => ?_)
    go_simp
    go_at_call 138
    refine (smin_mm _ _ _).mono ?_
    rintro e w' ⟨rfl, rfl⟩
    go_wp2_with fail
    refine hK.out _ _ ?_ (fun hHeld => ?_)
    · exact hHeld
    clear hK K
    try simp only [Act.put, List.setIfInBounds_toArray, List.set_cons_zero, List.set_cons_succ]
    iterate 2 (refine lin_on (v := ?_) rfl (fun _ _ _ h => h) (by rfl) ?_ (by assumption) ?_; rotate_left; (· (intro wq hSw; go_simp; try with_reducible rfl)); try simp only [Act.put, List.setIfInBounds_toArray, List.set_cons_zero, List.set_cons_succ])
    refine lin_done ?_
    go_wp2_with fail
    go_meet
    exact ⟨rfl, HB2⟩
  case rest =>
  obtain ⟨rfl, HB2⟩ := hcut
  clear k0 k1 k2 k3 k4 k5 k6 k7
  obtain ⟨k0, k1, k2, k3, k4, k5, k6, k7⟩ := HB2.out.c44
  clear h1 h2 h3 h4
  go_wp2_with fail
  refine (l5Shared_is a b c d p q r s n _ HN.out).mono ?_
  rintro e w3 ⟨rfl, hb3⟩
  have HB := Lib.hid (HB2.out.next hb3)
  clear hb3 HB2 HN k0 k1 k2 k3 k4 k5 k6 k7
  have hn0 : (((n : Nat) : Int) == 0) = false := by simp; omega
  have hn1 : (((n : Nat) : Int) == 1) = false := by simp; omega
  go_wp2
  go_ret
  exact ⟨ret_int HE.out.symm, HB.out.1⟩

set_option maxRecDepth 100000 in
set_option maxHeartbeats 4000000 in
theorem sHowMeet_cross (a b c d p q r s : Int) (w : World) (hs : isS a b c d = true) (ht : isS p q r s = true) (hx : ¬ Apart a b c d p q r s) (e0 : (shL a b c d p q r s).length = 0) (hm1 : sideV a b c d p q * sideV a b c d r s < 0) (hm2 : sideV p q r s a b * sideV p q r s c d < 0) (e2 : howV a b c d p q r s = 2) :
    Calls Tryz.prog 113 #[SegV a b c d, SegV p q r s] w fun e w' => e = .returned (.int .i64 (howV a b c d p q r s)) ∧ Below w.heap.size w w' := by
  obtain ⟨z, hz⟩ : ∃ z, howV a b c d p q r s = z := ⟨_, rfl⟩
  rw [hz]
  have hx4 : ¬ max a c < min p r ∧ ¬ max p r < min a c ∧ ¬ max b d < min q s ∧ ¬ max q s < min b d := by
    unfold Apart at hx; omega
  obtain ⟨h1, h2, h3, h4⟩ := hx4
  have HE := Lib.hid (hz.symm.trans e2)
  have HN := Lib.hid e0
  clear hx hz e0 e2
  obtain ⟨s1, hs1⟩ : ∃ z, sideV a b c d p q = z := ⟨_, rfl⟩
  obtain ⟨s2, hs2⟩ : ∃ z, sideV a b c d r s = z := ⟨_, rfl⟩
  obtain ⟨s3, hs3⟩ : ∃ z, sideV p q r s a b = z := ⟨_, rfl⟩
  obtain ⟨s4, hs4⟩ : ∃ z, sideV p q r s c d = z := ⟨_, rfl⟩
  have hw1 : IntKind.i64.wrap (s1 * s2) = s1 * s2 := by rw [← hs1, ← hs2]; exact sides_mul (sides3 _ _ _ _ _ _) (sides3 _ _ _ _ _ _)
  have hw2 : IntKind.i64.wrap (s3 * s4) = s3 * s4 := by rw [← hs3, ← hs4]; exact sides_mul (sides3 _ _ _ _ _ _) (sides3 _ _ _ _ _ _)
  obtain ⟨m1, hM1⟩ : ∃ m, s1 * s2 = m := ⟨_, rfl⟩
  obtain ⟨m2, hM2⟩ : ∃ m, s3 * s4 = m := ⟨_, rfl⟩
  have hd1 : decide (m1 < 0) = true := by rw [← hM1, ← hs1, ← hs2]; exact decide_eq_true hm1
  have hd2 : decide (m2 < 0) = true := by rw [← hM2, ← hs3, ← hs4]; exact decide_eq_true hm2
  have H1 := Lib.hid hs1
  have H2 := Lib.hid hs2
  have H3 := Lib.hid hs3
  have H4 := Lib.hid hs4
  have HW1 := Lib.hid (hw1.trans hM1)
  have HW2 := Lib.hid (hw2.trans hM2)
  clear hs1 hs2 hs3 hs4 hM1 hM2 hw1 hw2
  have HD1 := Lib.hid hd1
  have HD2 := Lib.hid hd2
  clear hm1 hm2 hd1 hd2
  have HB := Lib.hid (Vars.of2 w (SegC a b c d) (SegC p q r s) 78 78)
  go_enter Tryz.func113, Tryz.ntmps113
  go_wp2_with fail
  refine (sIsSegment_is a b c d _ _ hs).mono ?_
  rintro e w1 ⟨rfl, hb1⟩
  have HB1 := Lib.hid (HB.out.next hb1)
  clear hb1 HB
  obtain ⟨k0, k1, k2, k3, k4, k5, k6, k7⟩ := HB1.out.c44
  go_wp2_with fail
  refine (sIsSegment_is p q r s _ _ ht).mono ?_
  rintro e w2 ⟨rfl, hb2⟩
  have HB2 := Lib.hid (HB1.out.next hb2)
  clear hb2 HB1 k0 k1 k2 k3 k4 k5 k6 k7 hs ht
  obtain ⟨k0, k1, k2, k3, k4, k5, k6, k7⟩ := HB2.out.c44
  go_upto_region 3 with fail
  go_cut [78] (fun s78 wx => s78 = .bool false ∧ Hid (Vars w wx [SegC a b c d, SegC p q r s]))
  case first =>
    have HB2 := Lib.hid HB2.out.drew
    refine wp_region_held_drew (S := (fun w' => w'.cell? ⟨w.heap.size, 0, none⟩ = some (.int .i64 a) ∧ w'.cell? ⟨w.heap.size, 1, none⟩ = some (.int .i64 b) ∧ w'.cell? ⟨w.heap.size, 2, none⟩ = some (.int .i64 c) ∧ w'.cell? ⟨w.heap.size, 3, none⟩ = some (.int .i64 d) ∧ w'.cell? ⟨w.heap.size + 1, 0, none⟩ = some (.int .i64 p) ∧ w'.cell? ⟨w.heap.size + 1, 1, none⟩ = some (.int .i64 q) ∧ w'.cell? ⟨w.heap.size + 1, 2, none⟩ = some (.int .i64 r) ∧ w'.cell? ⟨w.heap.size + 1, 3, none⟩ = some (.int .i64 s))) (by kernel_rfl) HB2.out.c44 (fun hHeld => ?_)
    have d1 : decide (max a c < min p r) = false := decide_eq_false (by omega)
    have d2 : decide (max p r < min a c) = false := decide_eq_false (by omega)
    have d3 : decide (max b d < min q s) = false := decide_eq_false (by omega)
    have d4 : decide (max q s < min b d) = false := decide_eq_false (by omega)
    refine to_lin (T := hm3T) (n := 66) hm3S ⟨by kernel_rfl, by kernel_rfl, by kernel_rfl⟩ (by kernel_rfl) (fun hTag => ?_)
    iterate 12 (refine lin_on (v := ?_) rfl (fun _ _ _ h => h) (by rfl) ?_ (by assumption) ?_; rotate_left; (· (intro wq hSw; go_simp; try with_reducible rfl)); try simp only [Act.put, List.setIfInBounds_toArray, List.set_cons_zero, List.set_cons_succ])
    refine lin_call rfl (by rfl) (fun K hK => ?_)
    go_simp
    go_at_call 112
    refine (smax_mm _ _ _).mono ?_
    rintro e w' ⟨rfl, rfl⟩
    go_wp2_with fail
    refine hK.out _ _ ?_ (fun hHeld => ?_)
    · exact hHeld
    clear hK K
    try simp only [Act.put, List.setIfInBounds_toArray, List.set_cons_zero, List.set_cons_succ]
    refine lin_call rfl (by rfl) (fun K hK => ?_)
    go_simp
    go_at_call 138
    refine (smin_mm _ _ _).mono ?_
    rintro e w' ⟨rfl, rfl⟩
    go_wp2_with fail
    refine hK.out _ _ ?_ (fun hHeld => ?_)
    · exact hHeld
    clear hK K
    try simp only [Act.put, List.setIfInBounds_toArray, List.set_cons_zero, List.set_cons_succ]
    iterate 14 (refine lin_on (v := ?_) rfl (fun _ _ _ h => h) (by rfl) ?_ (by assumption) ?_; rotate_left; (· (intro wq hSw; go_simp; try with_reducible rfl)); try simp only [Act.put, List.setIfInBounds_toArray, List.set_cons_zero, List.set_cons_succ])
    refine lin_call rfl (by rfl) (fun K hK => ?_)
    go_simp
    go_at_call 112
    refine (smax_mm _ _ _).mono ?_
    rintro e w' ⟨rfl, rfl⟩
    go_wp2_with fail
    refine hK.out _ _ ?_ (fun hHeld => ?_)
    · exact hHeld
    clear hK K
    try simp only [Act.put, List.setIfInBounds_toArray, List.set_cons_zero, List.set_cons_succ]
    refine lin_call rfl (by rfl) (fun K hK => ?_)
    go_simp
    go_at_call 138
    refine (smin_mm _ _ _).mono ?_
    rintro e w' ⟨rfl, rfl⟩
    go_wp2_with fail
    refine hK.out _ _ ?_ (fun hHeld => ?_)
    · exact hHeld
    clear hK K
    try simp only [Act.put, List.setIfInBounds_toArray, List.set_cons_zero, List.set_cons_succ]
    iterate 15 (refine lin_on (v := ?_) rfl (fun _ _ _ h => h) (by rfl) ?_ (by assumption) ?_; rotate_left; (· (intro wq hSw; go_simp; try with_reducible rfl)); try simp only [Act.put, List.setIfInBounds_toArray, List.set_cons_zero, List.set_cons_succ])
    refine lin_call rfl (by rfl) (fun K hK => ?_)
    go_simp
    go_at_call 112
    refine (smax_mm _ _ _).mono ?_
    rintro e w' ⟨rfl, rfl⟩
    go_wp2_with fail
    refine hK.out _ _ ?_ (fun hHeld => ?_)
    · exact hHeld
    clear hK K
    try simp only [Act.put, List.setIfInBounds_toArray, List.set_cons_zero, List.set_cons_succ]
    refine lin_call rfl (by rfl) (fun K hK => ?_)
    go_simp
    go_at_call 138
    refine (smin_mm _ _ _).mono ?_
    rintro e w' ⟨rfl, rfl⟩
    go_wp2_with fail
    refine hK.out _ _ ?_ (fun hHeld => ?_)
    · exact hHeld
    clear hK K
    try simp only [Act.put, List.setIfInBounds_toArray, List.set_cons_zero, List.set_cons_succ]
    iterate 15 (refine lin_on (v := ?_) rfl (fun _ _ _ h => h) (by rfl) ?_ (by assumption) ?_; rotate_left; (· (intro wq hSw; go_simp; try with_reducible rfl)); try simp only [Act.put, List.setIfInBounds_toArray, List.set_cons_zero, List.set_cons_succ])
    refine lin_call rfl (by rfl) (fun K hK => ?_)
    go_simp
    go_at_call 112
    refine (smax_mm _ _ _).mono ?_
    rintro e w' ⟨rfl, rfl⟩
    go_wp2_with fail
    refine hK.out _ _ ?_ (fun hHeld => ?_)
    · exact hHeld
    clear hK K
    try simp only [Act.put, List.setIfInBounds_toArray, List.set_cons_zero, List.set_cons_succ]
    refine lin_call rfl (by rfl) (fun K hK => ?_)
    go_simp
    go_at_call 138
    refine (smin_mm _ _ _).mono ?_
    rintro e w' ⟨rfl, rfl⟩
    go_wp2_with fail
    refine hK.out _ _ ?_ (fun hHeld => ?_)
    · exact hHeld
    clear hK K
    try simp only [Act.put, List.setIfInBounds_toArray, List.set_cons_zero, List.set_cons_succ]
    iterate 2 (refine lin_on (v := ?_) rfl (fun _ _ _ h => h) (by rfl) ?_ (by assumption) ?_; rotate_left; (· (intro wq hSw; go_simp; try with_reducible rfl)); try simp only [Act.put, List.setIfInBounds_toArray, List.set_cons_zero, List.set_cons_succ])
    refine lin_done ?_
    go_wp2_with fail
    go_meet
    exact ⟨rfl, HB2⟩
  case rest =>
  obtain ⟨rfl, HB2⟩ := hcut
  clear k0 k1 k2 k3 k4 k5 k6 k7
  obtain ⟨k0, k1, k2, k3, k4, k5, k6, k7⟩ := HB2.out.c44
  clear h1 h2 h3 h4
  go_wp2_with fail
  refine (l5Shared_is a b c d p q r s 0 _ HN.out).mono ?_
  rintro e w3 ⟨rfl, hb3⟩
  have HB := Lib.hid (HB2.out.next hb3)
  clear hb3 HB2 HN k0 k1 k2 k3 k4 k5 k6 k7
  go_upto_region 7 with fail
  go_cut [117] (fun s117 wx => s117 = .bool true ∧ Hid (Vars w wx [SegC a b c d, SegC p q r s]))
  case first =>
    have hw1 := HW1.out
    have hw2 := HW2.out
    have hd1 := HD1.out
    have hd2 := HD2.out
    have HB := Lib.hid HB.out.drew
    refine wp_region_held_drew (S := (fun w' => w'.cell? ⟨w.heap.size, 0, none⟩ = some (.int .i64 a) ∧ w'.cell? ⟨w.heap.size, 1, none⟩ = some (.int .i64 b) ∧ w'.cell? ⟨w.heap.size, 2, none⟩ = some (.int .i64 c) ∧ w'.cell? ⟨w.heap.size, 3, none⟩ = some (.int .i64 d) ∧ w'.cell? ⟨w.heap.size + 1, 0, none⟩ = some (.int .i64 p) ∧ w'.cell? ⟨w.heap.size + 1, 1, none⟩ = some (.int .i64 q) ∧ w'.cell? ⟨w.heap.size + 1, 2, none⟩ = some (.int .i64 r) ∧ w'.cell? ⟨w.heap.size + 1, 3, none⟩ = some (.int .i64 s))) (by kernel_rfl) HB.out.c44 (fun hHeld => ?_)
    refine to_lin (T := hm7T) (n := 34) hm7S ⟨by kernel_rfl, by kernel_rfl, by kernel_rfl⟩ (by kernel_rfl) (fun hTag => ?_)
    iterate 12 (refine lin_on (v := ?_) rfl (fun _ _ _ h => h) (by rfl) ?_ (by assumption) ?_; rotate_left; (· (intro wq hSw; go_simp; try with_reducible rfl)); try simp only [Act.put, List.setIfInBounds_toArray, List.set_cons_zero, List.set_cons_succ])
    refine lin_call rfl (by rfl) (fun K hK => ?_)
    go_simp
    go_at_call 140
    refine (sSideOf_is _ _ _ _ _ _ _ _ H1.out).mono ?_
    rintro e w9 ⟨rfl, hb9⟩
    have HB := Lib.hid (HB.out.next hb9)
    clear hb9
    go_wp2_with fail
    refine hK.out _ _ ?_ (fun hHeld => ?_)
    · exact HB.out.c44
    clear hK K
    try simp only [Act.put, List.setIfInBounds_toArray, List.set_cons_zero, List.set_cons_succ]
    refine lin_call rfl (by rfl) (fun K hK => ?_)
    go_simp
    go_at_call 140
    refine (sSideOf_is _ _ _ _ _ _ _ _ H2.out).mono ?_
    rintro e w9 ⟨rfl, hb9⟩
    have HB := Lib.hid (HB.out.next hb9)
    clear hb9
    go_wp2_with fail
    refine hK.out _ _ ?_ (fun hHeld => ?_)
    · exact HB.out.c44
    clear hK K
    try simp only [Act.put, List.setIfInBounds_toArray, List.set_cons_zero, List.set_cons_succ]
    iterate 15 (refine lin_on (v := ?_) rfl (fun _ _ _ h => h) (by rfl) ?_ (by assumption) ?_; rotate_left; (· (intro wq hSw; go_simp; try with_reducible rfl)); try simp only [Act.put, List.setIfInBounds_toArray, List.set_cons_zero, List.set_cons_succ])
    refine lin_call rfl (by rfl) (fun K hK => ?_)
    go_simp
    go_at_call 140
    refine (sSideOf_is _ _ _ _ _ _ _ _ H3.out).mono ?_
    rintro e w9 ⟨rfl, hb9⟩
    have HB := Lib.hid (HB.out.next hb9)
    clear hb9
    go_wp2_with fail
    refine hK.out _ _ ?_ (fun hHeld => ?_)
    · exact HB.out.c44
    clear hK K
    try simp only [Act.put, List.setIfInBounds_toArray, List.set_cons_zero, List.set_cons_succ]
    refine lin_call rfl (by rfl) (fun K hK => ?_)
    go_simp
    go_at_call 140
    refine (sSideOf_is _ _ _ _ _ _ _ _ H4.out).mono ?_
    rintro e w9 ⟨rfl, hb9⟩
    have HB := Lib.hid (HB.out.next hb9)
    clear hb9
    go_wp2_with fail
    refine hK.out _ _ ?_ (fun hHeld => ?_)
    · exact HB.out.c44
    clear hK K
    try simp only [Act.put, List.setIfInBounds_toArray, List.set_cons_zero, List.set_cons_succ]
    iterate 3 (refine lin_on (v := ?_) rfl (fun _ _ _ h => h) (by rfl) ?_ (by assumption) ?_; rotate_left; (· (intro wq hSw; go_simp; try with_reducible rfl)); try simp only [Act.put, List.setIfInBounds_toArray, List.set_cons_zero, List.set_cons_succ])
    refine lin_done ?_
    go_wp2_with fail
    go_meet
    exact ⟨rfl, HB⟩
  case rest =>
  obtain ⟨rfl, HB⟩ := hcut
  go_wp2
  go_ret
  exact ⟨ret_int HE.out.symm, HB.out.1⟩

set_option maxRecDepth 100000 in
set_option maxHeartbeats 4000000 in
theorem sHowMeet_none2 (a b c d p q r s : Int) (w : World) (hs : isS a b c d = true) (ht : isS p q r s = true) (hx : ¬ Apart a b c d p q r s) (e0 : (shL a b c d p q r s).length = 0) (hm1 : sideV a b c d p q * sideV a b c d r s < 0) (hm2 : ¬ sideV p q r s a b * sideV p q r s c d < 0) (e2 : howV a b c d p q r s = 0) :
    Calls Tryz.prog 113 #[SegV a b c d, SegV p q r s] w fun e w' => e = .returned (.int .i64 (howV a b c d p q r s)) ∧ Below w.heap.size w w' := by
  obtain ⟨z, hz⟩ : ∃ z, howV a b c d p q r s = z := ⟨_, rfl⟩
  rw [hz]
  have hx4 : ¬ max a c < min p r ∧ ¬ max p r < min a c ∧ ¬ max b d < min q s ∧ ¬ max q s < min b d := by
    unfold Apart at hx; omega
  obtain ⟨h1, h2, h3, h4⟩ := hx4
  have HE := Lib.hid (hz.symm.trans e2)
  have HN := Lib.hid e0
  clear hx hz e0 e2
  obtain ⟨s1, hs1⟩ : ∃ z, sideV a b c d p q = z := ⟨_, rfl⟩
  obtain ⟨s2, hs2⟩ : ∃ z, sideV a b c d r s = z := ⟨_, rfl⟩
  obtain ⟨s3, hs3⟩ : ∃ z, sideV p q r s a b = z := ⟨_, rfl⟩
  obtain ⟨s4, hs4⟩ : ∃ z, sideV p q r s c d = z := ⟨_, rfl⟩
  have hw1 : IntKind.i64.wrap (s1 * s2) = s1 * s2 := by rw [← hs1, ← hs2]; exact sides_mul (sides3 _ _ _ _ _ _) (sides3 _ _ _ _ _ _)
  have hw2 : IntKind.i64.wrap (s3 * s4) = s3 * s4 := by rw [← hs3, ← hs4]; exact sides_mul (sides3 _ _ _ _ _ _) (sides3 _ _ _ _ _ _)
  obtain ⟨m1, hM1⟩ : ∃ m, s1 * s2 = m := ⟨_, rfl⟩
  obtain ⟨m2, hM2⟩ : ∃ m, s3 * s4 = m := ⟨_, rfl⟩
  have hd1 : decide (m1 < 0) = true := by rw [← hM1, ← hs1, ← hs2]; exact decide_eq_true hm1
  have hd2 : decide (m2 < 0) = false := by rw [← hM2, ← hs3, ← hs4]; exact decide_eq_false hm2
  have H1 := Lib.hid hs1
  have H2 := Lib.hid hs2
  have H3 := Lib.hid hs3
  have H4 := Lib.hid hs4
  have HW1 := Lib.hid (hw1.trans hM1)
  have HW2 := Lib.hid (hw2.trans hM2)
  clear hs1 hs2 hs3 hs4 hM1 hM2 hw1 hw2
  have HD1 := Lib.hid hd1
  have HD2 := Lib.hid hd2
  clear hm1 hm2 hd1 hd2
  have HB := Lib.hid (Vars.of2 w (SegC a b c d) (SegC p q r s) 78 78)
  go_enter Tryz.func113, Tryz.ntmps113
  go_wp2_with fail
  refine (sIsSegment_is a b c d _ _ hs).mono ?_
  rintro e w1 ⟨rfl, hb1⟩
  have HB1 := Lib.hid (HB.out.next hb1)
  clear hb1 HB
  obtain ⟨k0, k1, k2, k3, k4, k5, k6, k7⟩ := HB1.out.c44
  go_wp2_with fail
  refine (sIsSegment_is p q r s _ _ ht).mono ?_
  rintro e w2 ⟨rfl, hb2⟩
  have HB2 := Lib.hid (HB1.out.next hb2)
  clear hb2 HB1 k0 k1 k2 k3 k4 k5 k6 k7 hs ht
  obtain ⟨k0, k1, k2, k3, k4, k5, k6, k7⟩ := HB2.out.c44
  go_upto_region 3 with fail
  go_cut [78] (fun s78 wx => s78 = .bool false ∧ Hid (Vars w wx [SegC a b c d, SegC p q r s]))
  case first =>
    have HB2 := Lib.hid HB2.out.drew
    refine wp_region_held_drew (S := (fun w' => w'.cell? ⟨w.heap.size, 0, none⟩ = some (.int .i64 a) ∧ w'.cell? ⟨w.heap.size, 1, none⟩ = some (.int .i64 b) ∧ w'.cell? ⟨w.heap.size, 2, none⟩ = some (.int .i64 c) ∧ w'.cell? ⟨w.heap.size, 3, none⟩ = some (.int .i64 d) ∧ w'.cell? ⟨w.heap.size + 1, 0, none⟩ = some (.int .i64 p) ∧ w'.cell? ⟨w.heap.size + 1, 1, none⟩ = some (.int .i64 q) ∧ w'.cell? ⟨w.heap.size + 1, 2, none⟩ = some (.int .i64 r) ∧ w'.cell? ⟨w.heap.size + 1, 3, none⟩ = some (.int .i64 s))) (by kernel_rfl) HB2.out.c44 (fun hHeld => ?_)
    have d1 : decide (max a c < min p r) = false := decide_eq_false (by omega)
    have d2 : decide (max p r < min a c) = false := decide_eq_false (by omega)
    have d3 : decide (max b d < min q s) = false := decide_eq_false (by omega)
    have d4 : decide (max q s < min b d) = false := decide_eq_false (by omega)
    refine to_lin (T := hm3T) (n := 66) hm3S ⟨by kernel_rfl, by kernel_rfl, by kernel_rfl⟩ (by kernel_rfl) (fun hTag => ?_)
    iterate 12 (refine lin_on (v := ?_) rfl (fun _ _ _ h => h) (by rfl) ?_ (by assumption) ?_; rotate_left; (· (intro wq hSw; go_simp; try with_reducible rfl)); try simp only [Act.put, List.setIfInBounds_toArray, List.set_cons_zero, List.set_cons_succ])
    refine lin_call rfl (by rfl) (fun K hK => ?_)
    go_simp
    go_at_call 112
    refine (smax_mm _ _ _).mono ?_
    rintro e w' ⟨rfl, rfl⟩
    go_wp2_with fail
    refine hK.out _ _ ?_ (fun hHeld => ?_)
    · exact hHeld
    clear hK K
    try simp only [Act.put, List.setIfInBounds_toArray, List.set_cons_zero, List.set_cons_succ]
    refine lin_call rfl (by rfl) (fun K hK => ?_)
    go_simp
    go_at_call 138
    refine (smin_mm _ _ _).mono ?_
    rintro e w' ⟨rfl, rfl⟩
    go_wp2_with fail
    refine hK.out _ _ ?_ (fun hHeld => ?_)
    · exact hHeld
    clear hK K
    try simp only [Act.put, List.setIfInBounds_toArray, List.set_cons_zero, List.set_cons_succ]
    iterate 14 (refine lin_on (v := ?_) rfl (fun _ _ _ h => h) (by rfl) ?_ (by assumption) ?_; rotate_left; (· (intro wq hSw; go_simp; try with_reducible rfl)); try simp only [Act.put, List.setIfInBounds_toArray, List.set_cons_zero, List.set_cons_succ])
    refine lin_call rfl (by rfl) (fun K hK => ?_)
    go_simp
    go_at_call 112
    refine (smax_mm _ _ _).mono ?_
    rintro e w' ⟨rfl, rfl⟩
    go_wp2_with fail
    refine hK.out _ _ ?_ (fun hHeld => ?_)
    · exact hHeld
    clear hK K
    try simp only [Act.put, List.setIfInBounds_toArray, List.set_cons_zero, List.set_cons_succ]
    refine lin_call rfl (by rfl) (fun K hK => ?_)
    go_simp
    go_at_call 138
    refine (smin_mm _ _ _).mono ?_
    rintro e w' ⟨rfl, rfl⟩
    go_wp2_with fail
    refine hK.out _ _ ?_ (fun hHeld => ?_)
    · exact hHeld
    clear hK K
    try simp only [Act.put, List.setIfInBounds_toArray, List.set_cons_zero, List.set_cons_succ]
    iterate 15 (refine lin_on (v := ?_) rfl (fun _ _ _ h => h) (by rfl) ?_ (by assumption) ?_; rotate_left; (· (intro wq hSw; go_simp; try with_reducible rfl)); try simp only [Act.put, List.setIfInBounds_toArray, List.set_cons_zero, List.set_cons_succ])
    refine lin_call rfl (by rfl) (fun K hK => ?_)
    go_simp
    go_at_call 112
    refine (smax_mm _ _ _).mono ?_
    rintro e w' ⟨rfl, rfl⟩
    go_wp2_with fail
    refine hK.out _ _ ?_ (fun hHeld => ?_)
    · exact hHeld
    clear hK K
    try simp only [Act.put, List.setIfInBounds_toArray, List.set_cons_zero, List.set_cons_succ]
    refine lin_call rfl (by rfl) (fun K hK => ?_)
    go_simp
    go_at_call 138
    refine (smin_mm _ _ _).mono ?_
    rintro e w' ⟨rfl, rfl⟩
    go_wp2_with fail
    refine hK.out _ _ ?_ (fun hHeld => ?_)
    · exact hHeld
    clear hK K
    try simp only [Act.put, List.setIfInBounds_toArray, List.set_cons_zero, List.set_cons_succ]
    iterate 15 (refine lin_on (v := ?_) rfl (fun _ _ _ h => h) (by rfl) ?_ (by assumption) ?_; rotate_left; (· (intro wq hSw; go_simp; try with_reducible rfl)); try simp only [Act.put, List.setIfInBounds_toArray, List.set_cons_zero, List.set_cons_succ])
    refine lin_call rfl (by rfl) (fun K hK => ?_)
    go_simp
    go_at_call 112
    refine (smax_mm _ _ _).mono ?_
    rintro e w' ⟨rfl, rfl⟩
    go_wp2_with fail
    refine hK.out _ _ ?_ (fun hHeld => ?_)
    · exact hHeld
    clear hK K
    try simp only [Act.put, List.setIfInBounds_toArray, List.set_cons_zero, List.set_cons_succ]
    refine lin_call rfl (by rfl) (fun K hK => ?_)
    go_simp
    go_at_call 138
    refine (smin_mm _ _ _).mono ?_
    rintro e w' ⟨rfl, rfl⟩
    go_wp2_with fail
    refine hK.out _ _ ?_ (fun hHeld => ?_)
    · exact hHeld
    clear hK K
    try simp only [Act.put, List.setIfInBounds_toArray, List.set_cons_zero, List.set_cons_succ]
    iterate 2 (refine lin_on (v := ?_) rfl (fun _ _ _ h => h) (by rfl) ?_ (by assumption) ?_; rotate_left; (· (intro wq hSw; go_simp; try with_reducible rfl)); try simp only [Act.put, List.setIfInBounds_toArray, List.set_cons_zero, List.set_cons_succ])
    refine lin_done ?_
    go_wp2_with fail
    go_meet
    exact ⟨rfl, HB2⟩
  case rest =>
  obtain ⟨rfl, HB2⟩ := hcut
  clear k0 k1 k2 k3 k4 k5 k6 k7
  obtain ⟨k0, k1, k2, k3, k4, k5, k6, k7⟩ := HB2.out.c44
  clear h1 h2 h3 h4
  go_wp2_with fail
  refine (l5Shared_is a b c d p q r s 0 _ HN.out).mono ?_
  rintro e w3 ⟨rfl, hb3⟩
  have HB := Lib.hid (HB2.out.next hb3)
  clear hb3 HB2 HN k0 k1 k2 k3 k4 k5 k6 k7
  go_upto_region 7 with fail
  go_cut [117] (fun s117 wx => s117 = .bool false ∧ Hid (Vars w wx [SegC a b c d, SegC p q r s]))
  case first =>
    have hw1 := HW1.out
    have hw2 := HW2.out
    have hd1 := HD1.out
    have hd2 := HD2.out
    have HB := Lib.hid HB.out.drew
    refine wp_region_held_drew (S := (fun w' => w'.cell? ⟨w.heap.size, 0, none⟩ = some (.int .i64 a) ∧ w'.cell? ⟨w.heap.size, 1, none⟩ = some (.int .i64 b) ∧ w'.cell? ⟨w.heap.size, 2, none⟩ = some (.int .i64 c) ∧ w'.cell? ⟨w.heap.size, 3, none⟩ = some (.int .i64 d) ∧ w'.cell? ⟨w.heap.size + 1, 0, none⟩ = some (.int .i64 p) ∧ w'.cell? ⟨w.heap.size + 1, 1, none⟩ = some (.int .i64 q) ∧ w'.cell? ⟨w.heap.size + 1, 2, none⟩ = some (.int .i64 r) ∧ w'.cell? ⟨w.heap.size + 1, 3, none⟩ = some (.int .i64 s))) (by kernel_rfl) HB.out.c44 (fun hHeld => ?_)
    refine to_lin (T := hm7T) (n := 34) hm7S ⟨by kernel_rfl, by kernel_rfl, by kernel_rfl⟩ (by kernel_rfl) (fun hTag => ?_)
    iterate 12 (refine lin_on (v := ?_) rfl (fun _ _ _ h => h) (by rfl) ?_ (by assumption) ?_; rotate_left; (· (intro wq hSw; go_simp; try with_reducible rfl)); try simp only [Act.put, List.setIfInBounds_toArray, List.set_cons_zero, List.set_cons_succ])
    refine lin_call rfl (by rfl) (fun K hK => ?_)
    go_simp
    go_at_call 140
    refine (sSideOf_is _ _ _ _ _ _ _ _ H1.out).mono ?_
    rintro e w9 ⟨rfl, hb9⟩
    have HB := Lib.hid (HB.out.next hb9)
    clear hb9
    go_wp2_with fail
    refine hK.out _ _ ?_ (fun hHeld => ?_)
    · exact HB.out.c44
    clear hK K
    try simp only [Act.put, List.setIfInBounds_toArray, List.set_cons_zero, List.set_cons_succ]
    refine lin_call rfl (by rfl) (fun K hK => ?_)
    go_simp
    go_at_call 140
    refine (sSideOf_is _ _ _ _ _ _ _ _ H2.out).mono ?_
    rintro e w9 ⟨rfl, hb9⟩
    have HB := Lib.hid (HB.out.next hb9)
    clear hb9
    go_wp2_with fail
    refine hK.out _ _ ?_ (fun hHeld => ?_)
    · exact HB.out.c44
    clear hK K
    try simp only [Act.put, List.setIfInBounds_toArray, List.set_cons_zero, List.set_cons_succ]
    iterate 15 (refine lin_on (v := ?_) rfl (fun _ _ _ h => h) (by rfl) ?_ (by assumption) ?_; rotate_left; (· (intro wq hSw; go_simp; try with_reducible rfl)); try simp only [Act.put, List.setIfInBounds_toArray, List.set_cons_zero, List.set_cons_succ])
    refine lin_call rfl (by rfl) (fun K hK => ?_)
    go_simp
    go_at_call 140
    refine (sSideOf_is _ _ _ _ _ _ _ _ H3.out).mono ?_
    rintro e w9 ⟨rfl, hb9⟩
    have HB := Lib.hid (HB.out.next hb9)
    clear hb9
    go_wp2_with fail
    refine hK.out _ _ ?_ (fun hHeld => ?_)
    · exact HB.out.c44
    clear hK K
    try simp only [Act.put, List.setIfInBounds_toArray, List.set_cons_zero, List.set_cons_succ]
    refine lin_call rfl (by rfl) (fun K hK => ?_)
    go_simp
    go_at_call 140
    refine (sSideOf_is _ _ _ _ _ _ _ _ H4.out).mono ?_
    rintro e w9 ⟨rfl, hb9⟩
    have HB := Lib.hid (HB.out.next hb9)
    clear hb9
    go_wp2_with fail
    refine hK.out _ _ ?_ (fun hHeld => ?_)
    · exact HB.out.c44
    clear hK K
    try simp only [Act.put, List.setIfInBounds_toArray, List.set_cons_zero, List.set_cons_succ]
    iterate 3 (refine lin_on (v := ?_) rfl (fun _ _ _ h => h) (by rfl) ?_ (by assumption) ?_; rotate_left; (· (intro wq hSw; go_simp; try with_reducible rfl)); try simp only [Act.put, List.setIfInBounds_toArray, List.set_cons_zero, List.set_cons_succ])
    refine lin_done ?_
    go_wp2_with fail
    go_meet
    exact ⟨rfl, HB⟩
  case rest =>
  obtain ⟨rfl, HB⟩ := hcut
  go_wp2
  go_ret
  exact ⟨ret_int HE.out.symm, HB.out.1⟩

set_option maxRecDepth 100000 in
set_option maxHeartbeats 4000000 in
theorem sHowMeet_none1 (a b c d p q r s : Int) (w : World) (hs : isS a b c d = true) (ht : isS p q r s = true) (hx : ¬ Apart a b c d p q r s) (e0 : (shL a b c d p q r s).length = 0) (hm1 : ¬ sideV a b c d p q * sideV a b c d r s < 0) (e2 : howV a b c d p q r s = 0) :
    Calls Tryz.prog 113 #[SegV a b c d, SegV p q r s] w fun e w' => e = .returned (.int .i64 (howV a b c d p q r s)) ∧ Below w.heap.size w w' := by
  obtain ⟨z, hz⟩ : ∃ z, howV a b c d p q r s = z := ⟨_, rfl⟩
  rw [hz]
  have hx4 : ¬ max a c < min p r ∧ ¬ max p r < min a c ∧ ¬ max b d < min q s ∧ ¬ max q s < min b d := by
    unfold Apart at hx; omega
  obtain ⟨h1, h2, h3, h4⟩ := hx4
  have HE := Lib.hid (hz.symm.trans e2)
  have HN := Lib.hid e0
  clear hx hz e0 e2
  obtain ⟨s1, hs1⟩ : ∃ z, sideV a b c d p q = z := ⟨_, rfl⟩
  obtain ⟨s2, hs2⟩ : ∃ z, sideV a b c d r s = z := ⟨_, rfl⟩
  obtain ⟨s3, hs3⟩ : ∃ z, sideV p q r s a b = z := ⟨_, rfl⟩
  obtain ⟨s4, hs4⟩ : ∃ z, sideV p q r s c d = z := ⟨_, rfl⟩
  have hw1 : IntKind.i64.wrap (s1 * s2) = s1 * s2 := by rw [← hs1, ← hs2]; exact sides_mul (sides3 _ _ _ _ _ _) (sides3 _ _ _ _ _ _)
  have hw2 : IntKind.i64.wrap (s3 * s4) = s3 * s4 := by rw [← hs3, ← hs4]; exact sides_mul (sides3 _ _ _ _ _ _) (sides3 _ _ _ _ _ _)
  obtain ⟨m1, hM1⟩ : ∃ m, s1 * s2 = m := ⟨_, rfl⟩
  obtain ⟨m2, hM2⟩ : ∃ m, s3 * s4 = m := ⟨_, rfl⟩
  have hd1 : decide (m1 < 0) = false := by rw [← hM1, ← hs1, ← hs2]; exact decide_eq_false hm1
  have H1 := Lib.hid hs1
  have H2 := Lib.hid hs2
  have H3 := Lib.hid hs3
  have H4 := Lib.hid hs4
  have HW1 := Lib.hid (hw1.trans hM1)
  have HW2 := Lib.hid (hw2.trans hM2)
  clear hs1 hs2 hs3 hs4 hM1 hM2 hw1 hw2
  have HD1 := Lib.hid hd1
  clear hm1 hd1
  have HB := Lib.hid (Vars.of2 w (SegC a b c d) (SegC p q r s) 78 78)
  go_enter Tryz.func113, Tryz.ntmps113
  go_wp2_with fail
  refine (sIsSegment_is a b c d _ _ hs).mono ?_
  rintro e w1 ⟨rfl, hb1⟩
  have HB1 := Lib.hid (HB.out.next hb1)
  clear hb1 HB
  obtain ⟨k0, k1, k2, k3, k4, k5, k6, k7⟩ := HB1.out.c44
  go_wp2_with fail
  refine (sIsSegment_is p q r s _ _ ht).mono ?_
  rintro e w2 ⟨rfl, hb2⟩
  have HB2 := Lib.hid (HB1.out.next hb2)
  clear hb2 HB1 k0 k1 k2 k3 k4 k5 k6 k7 hs ht
  obtain ⟨k0, k1, k2, k3, k4, k5, k6, k7⟩ := HB2.out.c44
  go_upto_region 3 with fail
  go_cut [78] (fun s78 wx => s78 = .bool false ∧ Hid (Vars w wx [SegC a b c d, SegC p q r s]))
  case first =>
    have HB2 := Lib.hid HB2.out.drew
    refine wp_region_held_drew (S := (fun w' => w'.cell? ⟨w.heap.size, 0, none⟩ = some (.int .i64 a) ∧ w'.cell? ⟨w.heap.size, 1, none⟩ = some (.int .i64 b) ∧ w'.cell? ⟨w.heap.size, 2, none⟩ = some (.int .i64 c) ∧ w'.cell? ⟨w.heap.size, 3, none⟩ = some (.int .i64 d) ∧ w'.cell? ⟨w.heap.size + 1, 0, none⟩ = some (.int .i64 p) ∧ w'.cell? ⟨w.heap.size + 1, 1, none⟩ = some (.int .i64 q) ∧ w'.cell? ⟨w.heap.size + 1, 2, none⟩ = some (.int .i64 r) ∧ w'.cell? ⟨w.heap.size + 1, 3, none⟩ = some (.int .i64 s))) (by kernel_rfl) HB2.out.c44 (fun hHeld => ?_)
    have d1 : decide (max a c < min p r) = false := decide_eq_false (by omega)
    have d2 : decide (max p r < min a c) = false := decide_eq_false (by omega)
    have d3 : decide (max b d < min q s) = false := decide_eq_false (by omega)
    have d4 : decide (max q s < min b d) = false := decide_eq_false (by omega)
    refine to_lin (T := hm3T) (n := 66) hm3S ⟨by kernel_rfl, by kernel_rfl, by kernel_rfl⟩ (by kernel_rfl) (fun hTag => ?_)
    iterate 12 (refine lin_on (v := ?_) rfl (fun _ _ _ h => h) (by rfl) ?_ (by assumption) ?_; rotate_left; (· (intro wq hSw; go_simp; try with_reducible rfl)); try simp only [Act.put, List.setIfInBounds_toArray, List.set_cons_zero, List.set_cons_succ])
    refine lin_call rfl (by rfl) (fun K hK => ?_)
    go_simp
    go_at_call 112
    refine (smax_mm _ _ _).mono ?_
    rintro e w' ⟨rfl, rfl⟩
    go_wp2_with fail
    refine hK.out _ _ ?_ (fun hHeld => ?_)
    · exact hHeld
    clear hK K
    try simp only [Act.put, List.setIfInBounds_toArray, List.set_cons_zero, List.set_cons_succ]
    refine lin_call rfl (by rfl) (fun K hK => ?_)
    go_simp
    go_at_call 138
    refine (smin_mm _ _ _).mono ?_
    rintro e w' ⟨rfl, rfl⟩
    go_wp2_with fail
    refine hK.out _ _ ?_ (fun hHeld => ?_)
    · exact hHeld
    clear hK K
    try simp only [Act.put, List.setIfInBounds_toArray, List.set_cons_zero, List.set_cons_succ]
    iterate 14 (refine lin_on (v := ?_) rfl (fun _ _ _ h => h) (by rfl) ?_ (by assumption) ?_; rotate_left; (· (intro wq hSw; go_simp; try with_reducible rfl)); try simp only [Act.put, List.setIfInBounds_toArray, List.set_cons_zero, List.set_cons_succ])
    refine lin_call rfl (by rfl) (fun K hK => ?_)
    go_simp
    go_at_call 112
    refine (smax_mm _ _ _).mono ?_
    rintro e w' ⟨rfl, rfl⟩
    go_wp2_with fail
    refine hK.out _ _ ?_ (fun hHeld => ?_)
    · exact hHeld
    clear hK K
    try simp only [Act.put, List.setIfInBounds_toArray, List.set_cons_zero, List.set_cons_succ]
    refine lin_call rfl (by rfl) (fun K hK => ?_)
    go_simp
    go_at_call 138
    refine (smin_mm _ _ _).mono ?_
    rintro e w' ⟨rfl, rfl⟩
    go_wp2_with fail
    refine hK.out _ _ ?_ (fun hHeld => ?_)
    · exact hHeld
    clear hK K
    try simp only [Act.put, List.setIfInBounds_toArray, List.set_cons_zero, List.set_cons_succ]
    iterate 15 (refine lin_on (v := ?_) rfl (fun _ _ _ h => h) (by rfl) ?_ (by assumption) ?_; rotate_left; (· (intro wq hSw; go_simp; try with_reducible rfl)); try simp only [Act.put, List.setIfInBounds_toArray, List.set_cons_zero, List.set_cons_succ])
    refine lin_call rfl (by rfl) (fun K hK => ?_)
    go_simp
    go_at_call 112
    refine (smax_mm _ _ _).mono ?_
    rintro e w' ⟨rfl, rfl⟩
    go_wp2_with fail
    refine hK.out _ _ ?_ (fun hHeld => ?_)
    · exact hHeld
    clear hK K
    try simp only [Act.put, List.setIfInBounds_toArray, List.set_cons_zero, List.set_cons_succ]
    refine lin_call rfl (by rfl) (fun K hK => ?_)
    go_simp
    go_at_call 138
    refine (smin_mm _ _ _).mono ?_
    rintro e w' ⟨rfl, rfl⟩
    go_wp2_with fail
    refine hK.out _ _ ?_ (fun hHeld => ?_)
    · exact hHeld
    clear hK K
    try simp only [Act.put, List.setIfInBounds_toArray, List.set_cons_zero, List.set_cons_succ]
    iterate 15 (refine lin_on (v := ?_) rfl (fun _ _ _ h => h) (by rfl) ?_ (by assumption) ?_; rotate_left; (· (intro wq hSw; go_simp; try with_reducible rfl)); try simp only [Act.put, List.setIfInBounds_toArray, List.set_cons_zero, List.set_cons_succ])
    refine lin_call rfl (by rfl) (fun K hK => ?_)
    go_simp
    go_at_call 112
    refine (smax_mm _ _ _).mono ?_
    rintro e w' ⟨rfl, rfl⟩
    go_wp2_with fail
    refine hK.out _ _ ?_ (fun hHeld => ?_)
    · exact hHeld
    clear hK K
    try simp only [Act.put, List.setIfInBounds_toArray, List.set_cons_zero, List.set_cons_succ]
    refine lin_call rfl (by rfl) (fun K hK => ?_)
    go_simp
    go_at_call 138
    refine (smin_mm _ _ _).mono ?_
    rintro e w' ⟨rfl, rfl⟩
    go_wp2_with fail
    refine hK.out _ _ ?_ (fun hHeld => ?_)
    · exact hHeld
    clear hK K
    try simp only [Act.put, List.setIfInBounds_toArray, List.set_cons_zero, List.set_cons_succ]
    iterate 2 (refine lin_on (v := ?_) rfl (fun _ _ _ h => h) (by rfl) ?_ (by assumption) ?_; rotate_left; (· (intro wq hSw; go_simp; try with_reducible rfl)); try simp only [Act.put, List.setIfInBounds_toArray, List.set_cons_zero, List.set_cons_succ])
    refine lin_done ?_
    go_wp2_with fail
    go_meet
    exact ⟨rfl, HB2⟩
  case rest =>
  obtain ⟨rfl, HB2⟩ := hcut
  clear k0 k1 k2 k3 k4 k5 k6 k7
  obtain ⟨k0, k1, k2, k3, k4, k5, k6, k7⟩ := HB2.out.c44
  clear h1 h2 h3 h4
  go_wp2_with fail
  refine (l5Shared_is a b c d p q r s 0 _ HN.out).mono ?_
  rintro e w3 ⟨rfl, hb3⟩
  have HB := Lib.hid (HB2.out.next hb3)
  clear hb3 HB2 HN k0 k1 k2 k3 k4 k5 k6 k7
  go_upto_region 7 with fail
  go_cut [117] (fun s117 wx => s117 = .bool false ∧ Hid (Vars w wx [SegC a b c d, SegC p q r s]))
  case first =>
    have hw1 := HW1.out
    have hw2 := HW2.out
    have hd1 := HD1.out
    have HB := Lib.hid HB.out.drew
    refine wp_region_held_drew (S := (fun w' => w'.cell? ⟨w.heap.size, 0, none⟩ = some (.int .i64 a) ∧ w'.cell? ⟨w.heap.size, 1, none⟩ = some (.int .i64 b) ∧ w'.cell? ⟨w.heap.size, 2, none⟩ = some (.int .i64 c) ∧ w'.cell? ⟨w.heap.size, 3, none⟩ = some (.int .i64 d) ∧ w'.cell? ⟨w.heap.size + 1, 0, none⟩ = some (.int .i64 p) ∧ w'.cell? ⟨w.heap.size + 1, 1, none⟩ = some (.int .i64 q) ∧ w'.cell? ⟨w.heap.size + 1, 2, none⟩ = some (.int .i64 r) ∧ w'.cell? ⟨w.heap.size + 1, 3, none⟩ = some (.int .i64 s))) (by kernel_rfl) HB.out.c44 (fun hHeld => ?_)
    refine to_lin (T := hm7T) (n := 34) hm7S ⟨by kernel_rfl, by kernel_rfl, by kernel_rfl⟩ (by kernel_rfl) (fun hTag => ?_)
    iterate 12 (refine lin_on (v := ?_) rfl (fun _ _ _ h => h) (by rfl) ?_ (by assumption) ?_; rotate_left; (· (intro wq hSw; go_simp; try with_reducible rfl)); try simp only [Act.put, List.setIfInBounds_toArray, List.set_cons_zero, List.set_cons_succ])
    refine lin_call rfl (by rfl) (fun K hK => ?_)
    go_simp
    go_at_call 140
    refine (sSideOf_is _ _ _ _ _ _ _ _ H1.out).mono ?_
    rintro e w9 ⟨rfl, hb9⟩
    have HB := Lib.hid (HB.out.next hb9)
    clear hb9
    go_wp2_with fail
    refine hK.out _ _ ?_ (fun hHeld => ?_)
    · exact HB.out.c44
    clear hK K
    try simp only [Act.put, List.setIfInBounds_toArray, List.set_cons_zero, List.set_cons_succ]
    refine lin_call rfl (by rfl) (fun K hK => ?_)
    go_simp
    go_at_call 140
    refine (sSideOf_is _ _ _ _ _ _ _ _ H2.out).mono ?_
    rintro e w9 ⟨rfl, hb9⟩
    have HB := Lib.hid (HB.out.next hb9)
    clear hb9
    go_wp2_with fail
    refine hK.out _ _ ?_ (fun hHeld => ?_)
    · exact HB.out.c44
    clear hK K
    try simp only [Act.put, List.setIfInBounds_toArray, List.set_cons_zero, List.set_cons_succ]
    iterate 3 (refine lin_on (v := ?_) rfl (fun _ _ _ h => h) (by rfl) ?_ (by assumption) ?_; rotate_left; (· (intro wq hSw; go_simp; try with_reducible rfl)); try simp only [Act.put, List.setIfInBounds_toArray, List.set_cons_zero, List.set_cons_succ])
    iterate 12 (refine lin_off rfl (fun _ _ _ h => h) (by rfl) (by assumption) ?_; try simp only [Act.put, List.setIfInBounds_toArray, List.set_cons_zero, List.set_cons_succ])
    (refine lin_skip rfl (by rfl) (by assumption) ?_; try simp only [Act.put, List.setIfInBounds_toArray, List.set_cons_zero, List.set_cons_succ])
    (refine lin_skip rfl (by rfl) (by assumption) ?_; try simp only [Act.put, List.setIfInBounds_toArray, List.set_cons_zero, List.set_cons_succ])
    iterate 2 (refine lin_off rfl (fun _ _ _ h => h) (by rfl) (by assumption) ?_; try simp only [Act.put, List.setIfInBounds_toArray, List.set_cons_zero, List.set_cons_succ])
    (refine lin_on (v := ?_) rfl (fun _ _ _ h => h) (by rfl) ?_ (by assumption) ?_; rotate_left; (· (intro wq hSw; go_simp; try with_reducible rfl)); try simp only [Act.put, List.setIfInBounds_toArray, List.set_cons_zero, List.set_cons_succ])
    refine lin_done ?_
    go_wp2_with fail
    go_meet
    exact ⟨rfl, HB⟩
  case rest =>
  obtain ⟨rfl, HB⟩ := hcut
  go_wp2
  go_ret
  exact ⟨ret_int HE.out.symm, HB.out.1⟩

theorem sHowMeet_yes (a b c d p q r s : Int) (w : World) (hs : isS a b c d = true) (ht : isS p q r s = true) :
    Calls Tryz.prog 113 #[SegV a b c d, SegV p q r s] w fun e w' => e = .returned (.int .i64 (howV a b c d p q r s)) ∧ Below w.heap.size w w' := by
  by_cases hx : Apart a b c d p q r s
  · have hx4 : max a c < min p r ∨ (¬ max a c < min p r ∧ max p r < min a c) ∨ (¬ max a c < min p r ∧ ¬ max p r < min a c ∧ max b d < min q s) ∨ (¬ max a c < min p r ∧ ¬ max p r < min a c ∧ ¬ max b d < min q s ∧ max q s < min b d) := by
      unfold Apart at hx; omega
    rcases hx4 with h1 | ⟨h1, h2⟩ | ⟨h1, h2, h3⟩ | ⟨h1, h2, h3, h4⟩
    · exact sHowMeet_apart1 a b c d p q r s w hs ht hx h1
    · exact sHowMeet_apart2 a b c d p q r s w hs ht hx h1 h2
    · exact sHowMeet_apart3 a b c d p q r s w hs ht hx h1 h2 h3
    · exact sHowMeet_apart4 a b c d p q r s w hs ht hx h1 h2 h3 h4
  · rcases how_count hs ht hx with ⟨e0, e1, e2⟩ | ⟨e0, e1, e2⟩ | ⟨e0, e2⟩ | ⟨e0, e2⟩
    · exact sHowMeet_cross a b c d p q r s w hs ht hx e0 e1.1 e1.2 e2
    · by_cases hm : sideV a b c d p q * sideV a b c d r s < 0
      · exact sHowMeet_none2 a b c d p q r s w hs ht hx e0 hm (fun h => e1 ⟨hm, h⟩) e2
      · exact sHowMeet_none1 a b c d p q r s w hs ht hx e0 hm e2
    · exact sHowMeet_one a b c d p q r s w hs ht hx e0 e2
    · exact sHowMeet_many a b c d p q r s w hs ht hx e0 e2
theorem sHowMeet_any (a b c d p q r s : Int) (w : World) :
    Calls Tryz.prog 113 #[SegV a b c d, SegV p q r s] w fun e w' => e = .returned (.int .i64 (howV a b c d p q r s)) ∧ Below w.heap.size w w' := by
  by_cases h : isS a b c d = true ∧ isS p q r s = true
  · exact sHowMeet_yes a b c d p q r s w h.1 h.2
  · exact sHowMeet_no a b c d p q r s w h
end Go.Proofs.YtbnjaaegbmhopaaGreatDoor
end
section
/- Segments: the contracts of chapter 5 by values, but for HowMeet. -/
namespace Go.Proofs.YtbnjaaegbmhopaaGreatDoor
open Go.ChangeShapes Go.WideShapes Go.ChangeAt Go.RowKit
set_option linter.unusedVariables false

theorem isOn_is (a b c d x y : Int) (k : Bool) (w : World) (h : onV a b c d x y = k) :
    Calls Tryz.prog 52 #[SegV a b c d, PtV x y] w fun e w' => e = .returned (.bool k) ∧ Below w.heap.size w w' := by
  subst h; exact isOn_any a b c d x y w
theorem isSegment_is (a b c d : Int) (k : Bool) (w : World) (h : isS a b c d = k) :
    Calls Tryz.prog 156 #[SegV a b c d] w fun e w' => e = .returned (.bool k) ∧ Below w.heap.size w w' := by
  subst h; exact isSegment_any a b c d w
end Go.Proofs.YtbnjaaegbmhopaaGreatDoor
end
section
/- Segments: the contracts of HowMeet by values. -/
namespace Go.Proofs.YtbnjaaegbmhopaaGreatDoor
open Go.ChangeShapes Go.WideShapes Go.ChangeAt Go.RowKit
set_option linter.unusedVariables false

theorem howMeet_is (a b c d p q r s : Int) (k : Int) (w : World) (h : howV a b c d p q r s = k) :
    Calls Tryz.prog 95 #[SegV a b c d, SegV p q r s] w fun e w' => e = .returned (.int .i64 k) ∧ Below w.heap.size w w' := by
  subst h; exact howMeet_any a b c d p q r s w
theorem sHowMeet_is (a b c d p q r s : Int) (k : Int) (w : World) (h : howV a b c d p q r s = k) :
    Calls Tryz.prog 113 #[SegV a b c d, SegV p q r s] w fun e w' => e = .returned (.int .i64 k) ∧ Below w.heap.size w w' := by
  subst h; exact sHowMeet_any a b c d p q r s w
end Go.Proofs.YtbnjaaegbmhopaaGreatDoor
end
section
/- Segments by values: calls on them, and what two of them should meet like. -/
namespace Go.Proofs.YtbnjaaegbmhopaaGreatDoor
open Go.ChangeShapes Go.WideShapes Go.ChangeAt Go.RowKit
set_option linter.unusedVariables false

/-- A segment's value. -/
abbrev sV (s : Int × Int × Int × Int) : Value := SegV s.1 s.2.1 s.2.2.1 s.2.2.2
theorem sHowS_is (s t : Int × Int × Int × Int) (k : Int) (w : World) (h : howS s t = k) :
    Calls Tryz.prog 113 #[sV s, sV t] w fun e w' => e = .returned (.int .i64 k) ∧ Below w.heap.size w w' := sHowMeet_is _ _ _ _ _ _ _ _ k w h
theorem howS_is (s t : Int × Int × Int × Int) (k : Int) (w : World) (h : howS s t = k) :
    Calls Tryz.prog 95 #[sV s, sV t] w fun e w' => e = .returned (.int .i64 k) ∧ Below w.heap.size w w' := howMeet_is _ _ _ _ _ _ _ _ k w h
/-- What two segments at i < k should meet like. -/
def wantS (i k : Nat) : Int := if i + 1 = k then 1 else 0
theorem smp_no {l : List (Int × Int)} {i k : Nat} {u v : Int × Int × Int × Int} (hi : (sgV l)[i]? = some u) (hk : (sgV l)[k]? = some v) (hik : i < k) (h : ¬ howS u v = wantS i k) : smpV l = false := by
  have hkl := (List.getElem?_eq_some_iff.1 hk).1
  have : decide (∀ k, k < (sgV l).length → ∀ i, i < k → mtOk (sgV l) i k = true) = false := decide_eq_false fun g => by
    have := g k hkl i hik
    rw [mtOk_at hi hk, beq_iff_eq] at this
    exact h this
  unfold smpV
  rw [this]; rfl
theorem smp_all {l : List (Int × Int)} (h : ∀ k, k < (sgV l).length → ∀ i, i < k → mtOk (sgV l) i k = true) : isLn l = smpV l := by
  unfold smpV
  rw [decide_eq_true h, Bool.true_and]
theorem smp_ok {S : List (Int × Int × Int × Int)} {i k : Nat} {u v : Int × Int × Int × Int} (hi : S[i]? = some u) (hk : S[k]? = some v) (h : howS u v = wantS i k) : mtOk S i k = true := by
  rw [mtOk_at hi hk, beq_iff_eq]; exact h
theorem upto_step {p : Nat → Prop} {j : Nat} (h : ∀ i, i < j → p i) (hj : p j) : ∀ i, i < j + 1 → p i := fun i hi => by
  by_cases e : i = j
  · rw [e]; exact hj
  · exact h i (by omega)
theorem cells4 {w : World} {B : Nat} {b off j : Nat} {l : List (Int × Int × Int × Int)} {x : Int × Int × Int × Int} (h : SeesE 4 encSegment w B (some ⟨b, off, none⟩) l) (hj : l[j]? = some x) :
    w.cell? ⟨b, off + j * 4, none⟩ = some (.int .i64 x.1) ∧ w.cell? ⟨b, off + j * 4 + 1, none⟩ = some (.int .i64 x.2.1) ∧ w.cell? ⟨b, off + j * 4 + 2, none⟩ = some (.int .i64 x.2.2.1) ∧ w.cell? ⟨b, off + j * 4 + 3, none⟩ = some (.int .i64 x.2.2.2) :=
  cellsSegment (t0 := x.1) (t1 := x.2.1) (t2 := x.2.2.1) (t3 := x.2.2.2) h hj

end Go.Proofs.YtbnjaaegbmhopaaGreatDoor
end
section
/- Lines: the iterator over the segments (impl), and IsLine. -/
namespace Go.Proofs.YtbnjaaegbmhopaaGreatDoor
open Go.ChangeShapes Go.WideShapes Go.ChangeAt Go.RowKit Go.Shelf
set_option linter.unusedVariables false
attribute [local go_sem] Oper.semAt_some

/-- The blocks of p lie as they lay. -/
def KpS (p : Nat → Prop) (W W' : World) : Prop := W.heap.size ≤ W'.heap.size ∧ ∀ k o, p k → W.heap[k]? = some o → W'.heap[k]? = some o
section
variable {p : Nat → Prop} {A B C W W' : World}
theorem KpS.refl (W : World) : KpS p W W := ⟨Nat.le_refl _, fun _ _ _ h => h⟩
theorem KpS.trans (h : KpS p A B) (k : KpS p B C) : KpS p A C := ⟨Nat.le_trans h.1 k.1, fun i o hp ho => k.2 i o hp (h.2 i o hp ho)⟩
theorem KpS.alloc (W : World) (o : Obj) : KpS p W (W.alloc o) := ⟨by simp, fun k o' _ hk => (Below.heap_alloc W o k (Array.getElem?_eq_some_iff.1 hk).1).trans hk⟩
theorem KpS.setCell (W : World) (a : Addr) (v : Value) (h : ¬ p a.block) : KpS p W (W.setCell a v) :=
  ⟨(KeepsWalks.setCell W a v).size, fun k o hp hk => (Below.heap_setCell W a v k (fun e => h (by subst e; exact hp))).trans hk⟩
theorem KpS.drew (W : World) : KpS p W W.drew := ⟨Nat.le_refl _, fun _ _ _ h => h⟩
theorem KpS.of_below {n : Nat} (h : Below n W W') (hp : ∀ k, p k → k < W.heap.size → k < n) : KpS p W W' :=
  ⟨h.size, fun k o hk ho => (h.block k (hp k hk (Array.getElem?_eq_some_iff.1 ho).1)).trans ho⟩
theorem KpS.of_call (h : Below W.heap.size W W') : KpS p W W' := KpS.of_below h fun _ _ h => h
theorem KpS.grown {r : Option Nat} (h : W.grownBy W' r) (hp : ∀ k, r = some k → ¬ p k) : KpS p W W' :=
  ⟨h.size, fun k o hk ho => (h.block k (Array.getElem?_eq_some_iff.1 ho).1 (fun e => hp k e.symm hk)).trans ho⟩
theorem KpS.mono {q : Nat → Prop} (h : KpS p A B) (hq : ∀ k, q k → p k) : KpS q A B := ⟨h.1, fun k o hk ho => h.2 k o (hq k hk) ho⟩
theorem KpS.cell (h : KpS p W W') {a : Addr} {v : Value} (hp : p a.block) (hc : W.cell? a = some v) : W'.cell? a = some v := by
  obtain ⟨o, ho, _⟩ := cells_of_cell hc
  exact (World.cell?_of_block ((h.2 _ o hp ho).trans ho.symm)).trans hc
/-- The law's book-keeping: a block from N on. -/
theorem KpS.book {N : Nat} (hp : ∀ k, p k → k < N) (W : World) (l : Nat) (o o' : Obj) (hl : N ≤ l) (h : W.heap[l]? = some o) (_ : o.isCells = false) (_ : o.isWalk = false) : KpS p W (W.putObj l o') :=
  ⟨by simp [World.putObj], fun k u hk hu => (World.putObj_heap_other (fun e => by have := hp k hk; omega)).trans hu⟩
theorem SeesE.kp {α : Type} {n : Nat} {enc : α → List Value} {M : Nat} {P : Option Addr} {l : List α} (h : SeesE n enc W M P l) (hk : KpS p W W') (hp : ∀ k, k < M → p k) : SeesE n enc W' M P l := fun j x hj => by
  obtain ⟨b, off, e, hb, hc⟩ := h j x hj
  exact ⟨b, off, e, hb, fun i v hv => hk.cell (a := ⟨b, off + j * n + i, none⟩) (hp b hb) (hc i v hv)⟩
end
theorem KeepsOthers.of_call {W W' : World} (h : Below W.heap.size W W') : KeepsOthers W W' := ⟨h.size, fun k o hk _ => (h.block k (Array.getElem?_eq_some_iff.1 hk).1).trans hk⟩
theorem KeepsOthers.drew' (W : World) : KeepsOthers W W.drew := ⟨Nat.le_refl _, fun _ _ h _ => h⟩
theorem abides_drew {β : Type} {B : Nat} {J : β → World → Prop} (h : AbidesFrom B J) {s : β} {W : World} (hs : J s W) : J s W.drew := h s W W.drew none hs ⟨rfl, rfl, rfl, Nat.le_refl _, fun _ _ _ => rfl⟩ (fun r e => by cases e)

theorem RoundIn.mono' {F : Fence} {n : Nat} {P : Program} {y fn : Nat} {tmps : Array Value} {assign body : Go.Code} {W : World} {X Y : World → Prop}
    (h : RoundIn F n P y fn tmps assign body W fun e W' => (e = .returned (.bool true) ∧ X W') ∨ (e = .returned (.bool false) ∧ Y W')) :
    RoundIn F n P y fn tmps assign body W fun e W' => ∃ b : Bool, e = .returned (.bool b) ∧ if b then X W' else Y W' :=
  h.mono fun e W' h => h.elim (fun h => ⟨true, h.1, by simpa using h.2⟩) (fun h => ⟨false, h.1, by simpa using h.2⟩)
theorem jts_succ {α : Type} {L : List α} {k : Nat} {x : α} (h : L[k]? = some x) : L.take k ++ [x] = L.take (k + 1) := by rw [List.take_add_one, h]; rfl
theorem jts_pre {α : Type} {L : List α} {k : Nat} {x : α} (h : L[k]? = some x) : L.take k ++ [x] <+: L := by rw [jts_succ h]; exact List.take_prefix _ _
set_option maxRecDepth 100000 in
set_option maxHeartbeats 4000000 in
/-- jointsOf's iterator, for every loop body that keeps what lies in the blocks of p. -/
theorem joints1_in (n : Nat) (hn : 1 ≤ n) (y Bs M n0 : Nat) (p : Nat → Prop) (A : Option Addr) (c : Nat) (l : List (Int × Int)) (J Jx : List (Int × Int × Int × Int) → World → Prop)
    (hJ : AbidesFrom n0 J) (hp : p Bs) (hpM : ∀ k, k < M → p k) (hl : l.length ≤ 1099511627776)
    (hY : ∀ pre x W, J pre W → pre.length < (jts l).length → YieldAt Fence.wide (n - 1) Tryz.prog y #[sV x] W fun e W' =>
      (e = .returned (.bool true) ∧ J (pre ++ [x]) W' ∧ KpS p W W') ∨ (e = .returned (.bool false) ∧ Jx (pre ++ [x]) W'))
    (W : World) (hBs : W.cell? ⟨Bs, 0, none⟩ = some (.slice A l.length c)) (hs : SeesE 2 encPoint W M A l) (h0 : J [] W) :
    CallsIn Fence.wide n Tryz.prog 115 #[.func (.yield y) #[] #[], .pointer (some ⟨Bs, 0, none⟩)] W fun e W' => (∃ v, e = .returned v) ∧
      ((∃ ys, ys = jts l ∧ J ys W') ∨ (∃ pre, pre <+: jts l ∧ Jx pre W')) := by
  refine callsIn_of_wp Tryz.func115 rfl trivial ?_ rfl
  simp only [Tryz.ntmps115, List.size_toArray, List.length_cons, List.length_nil, Nat.reduceAdd, Nat.reduceSub, Array.replicate_succ, Array.replicate_zero, List.push_toArray, List.append_toArray, List.nil_append, List.cons_append]
  have HS := Lib.hid hs; clear hs
  gi_wp2
  gi_loopw [3] (fun i wr => ∃ k : Nat, i = .int .i64 ((k : Int) + 1) ∧ k ≤ (jts l).length ∧ J ((jts l).take k) wr ∧ KpS p W wr)
    (fun i _ => l.length - (intOf i).toNat)
  case atStart => exact ⟨0, rfl, Nat.zero_le _, h0, KpS.refl _⟩
  case round =>
    obtain ⟨k, rfl, hk, hJs, hkp⟩ := hrel
    have hb1 := hkp.cell (a := ⟨Bs, 0, none⟩) hp hBs
    have hjl := jts_len l
    by_cases hlt : k + 1 < l.length
    · obtain ⟨a, b, c', d, g1, g2, g3⟩ := jts_at hlt
      obtain ⟨B, off, rfl, hBM, -⟩ := HS.out k _ g1
      obtain ⟨c1, c2⟩ := cellsPoint (HS.out.kp hkp hpM) g1
      obtain ⟨c3, c4⟩ := cellsPoint (HS.out.kp hkp hpM) g2
      obtain ⟨fn, tmps, assign, body, hy, hR⟩ := hY _ (a, b, c', d) wr.drew (abides_drew hJ hJs) (by rw [List.length_take]; omega)
      change (Instr.yield y #[.agg #[.int .i64 a, .int .i64 b, .int .i64 c', .int .i64 d]]).run _ _ = _ at hy
      have HJ := Lib.hid hJs; clear hJs
      have HK := Lib.hid hkp; clear hkp
      have G3 := Lib.hid g3; clear g3
      clear g1 g2
      gi_wp2
      have hR' := RoundIn.mono' hR
      have hw : IntKind.i64.wrap (k : Int) = k := IntWalk.i64_in _ (by omega)
      gi_region_with (with_reducible refine RoundIn.mono hR' ?_; rintro e W3 ⟨bb, rfl, hout⟩; have HO := Lib.hid hout; clear hout)
      all_goals
        cases bb
        · have hx := HO.out
          simp only [Bool.false_eq_true, if_false] at hx
          gi_wp2
          refine bodyPost_ret (results_none rfl _ _ _) rfl ?_
          exact ⟨⟨_, rfl⟩, .inr ⟨_, jts_pre G3.out, hx⟩⟩
        · have hx := HO.out
          simp only [if_true] at hx
          obtain ⟨hj3, hk3⟩ := hx
          have HJ3 := Lib.hid hj3
          have HK3 := Lib.hid (HK.out.trans ((KpS.drew _).trans hk3))
          clear hj3 hk3 HO HJ
          gi_wp2
          go_roundw
          case rel => exact ⟨k + 1, by go_num, by omega, by rw [← jts_succ G3.out]; exact HJ3.out, HK3.out⟩
          case measure => simp [intOf]; omega
    · gi_wp2
      go_end0
      have e : k = (jts l).length := by omega
      subst e
      exact ⟨⟨_, rfl⟩, .inl ⟨_, rfl, by rw [List.take_length] at hJs; exact hJs⟩⟩
end Go.Proofs.YtbnjaaegbmhopaaGreatDoor
end
section
/- Lines: the iterator's contract, jointsOf, IsLine and walkLine of package impl. -/
namespace Go.Proofs.YtbnjaaegbmhopaaGreatDoor
open Go.ChangeShapes Go.WideShapes Go.ChangeAt Go.RowKit Go.Shelf
set_option linter.unusedVariables false
attribute [local go_sem] Oper.semAt_some

/-- Block B holds the cells cs. -/
def Laid (W : World) (B : Nat) (t : TypeId) (cs : Array Value) : Prop := W.heap[B]? = some (.cells cs t (0, 0))
section
variable {W W' : World} {B C : Nat} {t : TypeId} {cs : Array Value}
theorem Laid.lt (h : Laid W B t cs) : B < W.heap.size := (Array.getElem?_eq_some_iff.1 h).1
theorem Laid.cell (h : Laid W B t cs) {k : Nat} {v : Value} (hv : cs[k]? = some v) : W.cell? ⟨B, k, none⟩ = some v := by simp [World.cell?, show W.heap[B]? = _ from h, hv]
theorem Laid.frozen (h : Laid W B t cs) (k : Nat) : W.frozen? ⟨B, k, none⟩ = false := by simp [World.frozen?, show W.heap[B]? = _ from h]
theorem Laid.new (W : World) (t : TypeId) (cs : Array Value) : Laid (W.alloc (.cells cs t)) W.heap.size t cs := World.alloc_heap_new W _
theorem Laid.kept {row : Option Nat} (h : Laid W B t cs) (hg : W.grownBy W' row) (hne : some B ≠ row) : Laid W' B t cs := (hg.block B h.lt hne).trans h
theorem Laid.alloc (h : Laid W B t cs) (o : Obj) : Laid (W.alloc o) B t cs := h.kept (World.grownBy_alloc W o none) (by simp)
theorem Laid.below (h : Laid W B t cs) (hb : Below C W W') (hB : B < C) : Laid W' B t cs := (hb.block B hB).trans h
theorem Laid.call (h : Laid W B t cs) (hb : Below W.heap.size W W') : Laid W' B t cs := h.below hb h.lt
theorem Laid.drew (h : Laid W B t cs) : Laid W.drew B t cs := h
end
theorem laid_own {β : Type} (B : Nat) (t : TypeId) (f : β → Array Value) : _root_.Go.Own (fun s W => Laid W B t (f s)) := fun s X Y row hs hg hr =>
  Laid.kept hs hg (fun e => by obtain ⟨o, ho, hc⟩ := hr B e.symm; have hs' : X.heap[B]? = _ := hs; rw [hs'] at ho; injection ho with ho; subst ho; cases hc)
theorem boxed_call {W W' : World} {B : Nat} {t : TypeId} {v : Value} (h : Boxed W B t v) (hb : Below W.heap.size W W') : Boxed W' B t v := (hb.block B h.lt).trans h
theorem boxed_below {W W' : World} {B C : Nat} {t : TypeId} {v : Value} (h : Boxed W B t v) (hb : Below C W W') (hB : B < C) : Boxed W' B t v := (hb.block B hB).trans h
theorem boxed_drew {W : World} {B : Nat} {t : TypeId} {v : Value} (h : Boxed W B t v) : Boxed W.drew B t v := h
/-- A segment's cells. -/
abbrev sC (s : Int × Int × Int × Int) : Array Value := #[.int .i64 s.1, .int .i64 s.2.1, .int .i64 s.2.2.1, .int .i64 s.2.2.2]
theorem Laid.c4 {W : World} {B : Nat} {t : TypeId} {s : Int × Int × Int × Int} (h : Laid W B t (sC s)) :
    W.cell? ⟨B, 0, none⟩ = some (.int .i64 s.1) ∧ W.cell? ⟨B, 1, none⟩ = some (.int .i64 s.2.1) ∧ W.cell? ⟨B, 2, none⟩ = some (.int .i64 s.2.2.1) ∧ W.cell? ⟨B, 3, none⟩ = some (.int .i64 s.2.2.2) :=
  ⟨h.cell rfl, h.cell rfl, h.cell rfl, h.cell rfl⟩

theorem joints_stops (n : Nat) (hn : 1 ≤ n) (Bs M : Nat) (p : Nat → Prop) (A : Option Addr) (c : Nat) (l : List (Int × Int)) (hl : l.length ≤ 1099511627776) (w : World) (hBs : Bs < w.heap.size) (hM : M ≤ w.heap.size) (hp : p Bs) (hpM : ∀ k, k < M → p k)
    (hc : w.cell? ⟨Bs, 0, none⟩ = some (.slice A l.length c)) (hs : SeesE 2 encPoint w M A l) :
    SeqStopsK Fence.wide n Tryz.prog 115 #[.pointer (some ⟨Bs, 0, none⟩)] (fun x => #[sV x]) (KpS p) (fun ys => ys = jts l) (fun pre => pre <+: jts l) (jts l).length w := fun y J Jx W hW hJ _ hY h0 => by
  have hc' := (hW.cell (p := ⟨Bs, 0, none⟩) hBs).trans hc
  exact joints1_in n hn y Bs M W.heap.size p A c l J Jx hJ hp hpM hl hY W hc' (hs.below (hW.mono hM)) h0
theorem jointsOf_any (A : Option Addr) (m c : Nat) (w : World) :
    Calls Tryz.prog 77 #[.slice A m c] w fun e w' => e = .returned (.func (.func 115) #[] #[.pointer (some ⟨w.heap.size, 0, none⟩)]) ∧ w.alloc (.cells #[.slice A m c] 24) = w' := by
  go_enter Tryz.func77, Tryz.ntmps77
  go_wp2
  go_ret
  exact ⟨rfl, rfl⟩
theorem KpS.t {p : Nat → Prop} {A B C : World} (h : KpS p A B) (k : KpS p B C) : KpS p A C := h.trans k
theorem allS_snoc {pre : List (Int × Int × Int × Int)} {x : Int × Int × Int × Int} (h : ∀ s ∈ pre, sOk s = true) (hx : sOk x = true) : ∀ s ∈ pre ++ [x], sOk s = true := fun s hs =>
  (List.mem_append.1 hs).elim (h s) (fun e => by simp at e; subst e; exact hx)
theorem sOk_SegV (s : Int × Int × Int × Int) (k : Bool) (w : World) (h : sOk s = k) : Calls Tryz.prog 156 #[sV s] w fun e w' => e = .returned (.bool k) ∧ Below w.heap.size w w' :=
  isSegment_is _ _ _ _ k w h
set_option maxRecDepth 100000 in
set_option maxHeartbeats 4000000 in
theorem isLine_is (A : Option Addr) (c : Nat) (l : List (Int × Int)) (w : World) (hs : SeesE 2 encPoint w w.heap.size A l) (hl : l.length ≤ 1099511627776) (z : Bool) (hz : isLn l = z) :
    Calls Tryz.prog 137 #[.slice A l.length c] w fun e w' => e = .returned (.bool z) ∧ Below w.heap.size w w' := by
  have HS := Lib.hid hs; clear hs
  have HZ := Lib.hid hz; clear hz
  refine (callsIn_wide (n := 8)).1 ?_
  refine callsIn_of_wp_marks Tryz.func137 rfl trivial ?_ rfl
  simp only [Tryz.ntmps137, List.size_toArray, List.length_cons, List.length_nil, Nat.reduceAdd, Nat.reduceSub, Array.replicate_succ, Array.replicate_zero, List.push_toArray, List.append_toArray, List.nil_append, List.cons_append]
  cases hin : inB l.length 2 10
  · obtain rfl : z = false := HZ.out.symm.trans (by rw [isLn, hin, Bool.false_and])
    have bR := Boxed.new w 4 (.bool false)
    have cR := bR.cell
    gi_wp2_with (refine ⟨trivial, ?_⟩; gi_at_call 48; refine (callsIn_wide.2 (in_is _ _ _ _ _ hin)).mono ?_; rintro e w' ⟨rfl, rfl⟩)
    refine ⟨.bool false, ?_, rfl, (Below.refl _ w).alloc (Nat.le_refl _) _⟩
    simp [results, Tryz.f137, go_sem, cR]
  · gi_wp2_with (first
      | (refine ⟨trivial, ?_⟩; gi_at_call 48; refine (callsIn_wide.2 (in_is _ _ _ _ _ hin)).mono ?_; rintro e w' ⟨rfl, rfl⟩)
      | (refine ⟨trivial, ?_⟩; gi_at_call 77; refine (callsIn_wide.2 (jointsOf_any _ _ _ _)).mono ?_; rintro e w' ⟨rfl, rfl⟩))
    have bR := (Boxed.new w 4 (.bool false)).alloc (.cells #[.slice A l.length c] 24)
    have bA := Boxed.new (w.alloc (.cells #[.bool false] 4)) 24 (.slice A l.length c)
    simp only [World.size_alloc] at bA
    have hB0 : Below w.heap.size w ((w.alloc (.cells #[.bool false] 4)).alloc (.cells #[.slice A l.length c] 24)) := ((Below.refl _ w).alloc (Nat.le_refl _) _).alloc (by simp) _
    have hsz : ((w.alloc (.cells #[.bool false] 4)).alloc (.cells #[.slice A l.length c] 24)).heap.size = w.heap.size + 2 := by simp
    obtain ⟨W0, hW0⟩ : ∃ W0, (w.alloc (.cells #[.bool false] 4)).alloc (.cells #[.slice A l.length c] 24) = W0 := ⟨_, rfl⟩
    rw [hW0] at bR bA hB0 hsz ⊢
    clear hW0
    refine wpIn_rangeFunc_ownH rfl (by omega) (gf := 115) (lb := #[.pointer (some ⟨w.heap.size + 1, 0, none⟩)]) rfl trivial (enters_of Tryz.func115 (by kernel_rfl) rfl)
      (joints_stops (8 - 1) (by omega) (w.heap.size + 1) w.heap.size (fun k => k < w.heap.size ∨ k = w.heap.size + 1) A c l hl W0 (by omega) (by omega) (.inr rfl) (fun _ h => .inl h) bA.cell (HS.out.below hB0)) KpS.t (KpS.book (by intro k hk; omega)) (Below.refl _ _) (fun _ => rfl)
      (fun pre W => ((∀ s ∈ pre, sOk s = true) ∧ Boxed W w.heap.size 4 (.bool false)) ∧ Below w.heap.size w W)
      (fun cc pre W => ((cc = .ret ∧ ∃ s ∈ pre, sOk s = false) ∧ Boxed W w.heap.size 4 (.bool false)) ∧ Below w.heap.size w W)
      (OwnFrom.and (OwnFrom.and (ownFrom_pure _ _) (Own.from (boxed_own _ _ _) _)) (ownFrom_below (Nat.le_refl _) (by omega)))
      (fun cc => OwnFrom.and (OwnFrom.and (ownFrom_pure _ _) (Own.from (boxed_own _ _ _) _)) (ownFrom_below (Nat.le_refl _) (by omega)))
      ⟨⟨by simp, bR⟩, hB0⟩
      (fun x a' W => ∃ Bx, w.heap.size < Bx ∧ Laid W Bx 78 (sC x) ∧ a' = { tmps := #[.slice A l.length c, undef, .pointer (some ⟨w.heap.size, 0, none⟩), .pointer (some ⟨Bx, 0, none⟩), .slice A l.length c, .int .i64 l.length, .bool true, .bool false, .slice A l.length c, .func (.func 115) #[] #[.pointer (some ⟨w.heap.size + 1, 0, none⟩)], sV x, undef, undef, undef], defers := [] })
      (fun x a' _ X Y row hs hg hr => by obtain ⟨Bx, h1, h2, h3⟩ := hs; exact ⟨Bx, h1, laid_own Bx 78 (fun (_ : Unit) => sC x) () X Y row h2 hg (fun r e => (hr r e).2), h3⟩)
      ?assign ?body ?done ?stop
    case assign =>
      rintro y pre x W K ⟨⟨hp, bR1⟩, hB1⟩ hK
      gi_wp2
      exact hK _ _ ((KeepsOthers.alloc _ _).from _) (KpS.alloc _ _) ⟨⟨hp, bR1.alloc _⟩, hB1.alloc hB1.size _⟩ ⟨W.heap.size, bR1.lt, Laid.new W _ _, rfl⟩
    case body =>
      rintro y pre x a' W hy hr ⟨⟨hp, bR1⟩, hB1⟩ ⟨Bx, hBx, bX, rfl⟩ hlt
      obtain ⟨x0, x1, x2, x3⟩ := bX.c4
      have HB1 := Lib.hid hB1
      have BR := Lib.hid bR1
      have HP := Lib.hid hp
      clear hB1 hp
      have cR := bR1.cell
      have fR := bR1.frozen
      cases hx : sOk x
      · gi_wp2_with (refine ⟨trivial, ?_⟩; gi_at_call 156; refine (CallsIn.inRound y (callsIn_wide.2 (sOk_SegV x _ _ hx))).mono ?_; rintro e w9 ⟨rfl, hb9⟩; have bR9 := boxed_call BR.out hb9; have cR9 := bR9.cell; have fR9 := bR9.frozen)
        exact ⟨((KeepsOthers.of_call hb9).trans (KeepsOthers.setCell _ _ _)).from _, ⟨⟨rfl, x, List.mem_append.2 (.inr (by simp)), hx⟩, bR9.set _⟩, (HB1.out.trans (hb9.mono HB1.out.size)).setCell (p := ⟨w.heap.size, 0, none⟩) (Nat.le_refl _) _⟩
      · gi_wp2_with (refine ⟨trivial, ?_⟩; gi_at_call 156; refine (CallsIn.inRound y (callsIn_wide.2 (sOk_SegV x _ _ hx))).mono ?_; rintro e w9 ⟨rfl, hb9⟩; have bR9 := boxed_call BR.out hb9)
        exact ⟨(KeepsOthers.of_call hb9).from _, KpS.of_call hb9, ⟨allS_snoc HP.out hx, bR9⟩, HB1.out.trans (hb9.mono HB1.out.size)⟩
    case done =>
      rintro D zs W hD rfl ⟨⟨hp, bR1⟩, hB1⟩ hK
      have cR := bR1.cell
      have fR := bR1.frozen
      obtain rfl : z = true := HZ.out.symm.trans (by rw [isLn, hin, Bool.true_and, List.all_eq_true]; exact hp)
      gi_wp2
      have hK' := (KeepsOthers.setCell W ⟨w.heap.size, 0, none⟩ (.bool true)).same D _ hK rfl
      refine ⟨by simp, .inl ⟨_, _, rfl, run_takeDeferred hK', ?_⟩⟩
      have hc5 := cell_kept (bR1.set (.bool true)).cell (grownBy_putObj' _ D (.deferred none)) (fun r e => by cases e; exact ⟨_, hK', rfl⟩)
      refine ⟨.bool true, ?_, rfl, (hB1.setCell (p := ⟨w.heap.size, 0, none⟩) (by simp) _).trans (belowK_b (w := w) (Nat.le_refl _) _ D _ _ (by omega) hK' rfl rfl)⟩
      simp [results, Tryz.f137, go_sem, hc5]
    case stop =>
      rintro D cc pre W hD hpre ⟨⟨⟨rfl, x, hx, hy⟩, bR1⟩, hB1⟩ hK
      obtain rfl : z = false := HZ.out.symm.trans (by
        rw [isLn, hin, Bool.true_and]
        cases hh : (jts l).all sOk
        · rfl
        · rw [List.all_eq_true.1 hh x (hpre.subset hx)] at hy; cases hy)
      gi_wp2
      refine ⟨by simp, .inl ⟨_, _, rfl, run_takeDeferred hK, ?_⟩⟩
      have hc5 := cell_kept bR1.cell (grownBy_putObj' _ D (.deferred none)) (fun r e => by cases e; exact ⟨_, hK, rfl⟩)
      refine ⟨.bool false, ?_, rfl, hB1.trans (belowK_b (w := w) (Nat.le_refl _) W D _ _ (by omega) hK rfl rfl)⟩
      simp [results, Tryz.f137, go_sem, hc5]
/-- The iterator over a line's segments: a box of its own, which shows the line (or nothing). -/
def WalkOf (M : Nat) (l : List (Int × Int)) (w : World) (e : Ending) (w' : World) : Prop :=
  ∃ Bx A1 c1, e = .returned (.func (.func 115) #[] #[.pointer (some ⟨Bx, 0, none⟩)]) ∧ w.heap.size ≤ Bx ∧ Boxed w' Bx 24 (.slice A1 (lnV l).length c1) ∧ SeesE 2 encPoint w' M A1 (lnV l) ∧ Below w.heap.size w w'
theorem walkLine_any (A : Option Addr) (c : Nat) (l : List (Int × Int)) (w : World) (M : Nat) (hM : M ≤ w.heap.size) (hs : SeesE 2 encPoint w M A l) (hl : l.length ≤ 1099511627776) :
    Calls Tryz.prog 110 #[.slice A l.length c] w (WalkOf M l w) := by
  have HS := Lib.hid hs; clear hs
  go_enter Tryz.func110, Tryz.ntmps110
  cases hi : isLn l
  · go_wp2_with (first
      | (go_at_call 137; refine (isLine_is A c l _ (HS.out.mono hM) hl _ hi).mono ?_; rintro e w1 ⟨rfl, hb1⟩)
      | (go_at_call 77; refine (jointsOf_any _ _ _ _).mono ?_; rintro e w2 ⟨rfl, rfl⟩))
    go_ret
    refine ⟨_, none, 0, rfl, hb1.size, ?_, ?_, hb1.trans ((Below.refl _ _).alloc hb1.size _)⟩
    · rw [lnV_no hi]; exact Boxed.new w1 _ _
    · rw [lnV_no hi]; exact SeesE.nil
  · go_wp2_with (first
      | (go_at_call 137; refine (isLine_is A c l _ (HS.out.mono hM) hl _ hi).mono ?_; rintro e w1 ⟨rfl, hb1⟩)
      | (go_at_call 77; refine (jointsOf_any _ _ _ _).mono ?_; rintro e w2 ⟨rfl, rfl⟩))
    go_ret
    refine ⟨_, A, c, rfl, hb1.size, ?_, ?_, hb1.trans ((Below.refl _ _).alloc hb1.size _)⟩
    · rw [lnV_yes hi]; exact Boxed.new w1 _ _
    · rw [lnV_yes hi]; exact (HS.out.below (hb1.mono hM)).alloc (Nat.le_trans hM hb1.size) _
end Go.Proofs.YtbnjaaegbmhopaaGreatDoor
end
section
/- Lines: SegmentsOf and LineSteps of the model. -/
namespace Go.Proofs.YtbnjaaegbmhopaaGreatDoor
open Go.ChangeShapes Go.WideShapes Go.ChangeAt Go.RowKit
set_option linter.unusedVariables false

theorem keepA {w : World} {p : Addr} {v : Value} (h : w.cell? p = some v) (o : Obj) : (w.alloc o).cell? p = some v :=
  (World.cell?_of_block (Below.heap_alloc _ _ _ (World.block_lt_of_cell? w p h))).trans h
theorem sizeA (w : World) (o : Obj) : w.heap.size ≤ (w.alloc o).heap.size := by simp
/-- append of one segment, as one step of a region that draws its order. -/
theorem stepSegment (w : World) {ops : Array Oper} {o : Oper} {a : Act} {K : Act → World → Prop} {Q : Exit → Act → World → Prop} {E : Prop} (hgd : o.guard = none) (s x : Operand)
    (ho : o.op = .call { callee := .builtin .append, args := #[s, x], argTypes := #[38, 38] })
    (base : Nat) (v : Value) (l : List (Int × Int × Int × Int)) (hv : a.eval s = v) (hown : OwnE 4 encSegment w base 78 v l)
    (B : Nat) (A : Option Addr) (m c : Nat) (l2 : List (Int × Int × Int × Int)) (hx : a.eval x = .slice A m c) (hm : m = l2.length) (hs : SeesE 4 encSegment w B A l2) (h63 : l.length + l2.length ≤ 1099511627776) (hbase : base ≤ w.heap.size)
    (h : ∀ A' c' L w', Hid (L = l ++ l2) → L.length ≤ l.length + l2.length → l.length + l2.length ≤ L.length → OwnE 4 encSegment w' base 78 (.slice A' L.length c') L → Below base w w' → K (a.put o.dst (.slice A' L.length c')) w') :
    if Region.wanted o (yielded ops a.tmps) = true then Oper.wp Tryz.prog o a w K Q else E := by
  have hw : Region.wanted o (yielded ops a.tmps) = true := by simp [Region.wanted, hgd]
  rw [if_pos hw]
  obtain ⟨i, hi, hz, h1, h2⟩ := info_parts infoSegment
  exact wp_appE w elSegment s x _ ho _ i _ 32 Tryz.underlying38 hi hz h1 h2 rfl base v l hv hown B A m c l2 hx hm hs h63 (by decide) hbase h
def SoRel (l : List (Int × Int)) (w : World) (v i : Value) (wr : World) : Prop :=
  ∃ (A : Option Addr) (c : Nat) (L : List (Int × Int × Int × Int)) (j : Nat), v = .slice A L.length c ∧ i = .int .i64 ((j : Int) + 1) ∧ (isLn l = false → j = 0) ∧ (j = 0 ∨ j ≤ (jts l).length) ∧ Hid (L = (sgV l).take j) ∧ L.length = j ∧ OwnE 4 encSegment wr w.heap.size 78 (.slice A L.length c) L ∧ Below w.heap.size w wr
theorem so_step {S L L2 : List (Int × Int × Int × Int)} {j : Nat} {x : Int × Int × Int × Int} (hL : L = S.take j) (h : L2 = L ++ [x]) (hx : S[j]? = some x) : L2 = S.take (j + 1) := by
  rw [h, hL, List.take_add_one, hx]; rfl
set_option maxRecDepth 100000 in
set_option maxHeartbeats 4000000 in
theorem sSegmentsOf_any (A : Option Addr) (c : Nat) (l : List (Int × Int)) (w : World) (hs : SeesE 2 encPoint w w.heap.size A l) (hl : l.length ≤ 1099511627776) :
    Calls Tryz.prog 63 #[.slice A l.length c] w (GivesE 4 encSegment 78 (sgV l) w) := by
  have HS := Lib.hid hs; clear hs
  go_enter Tryz.func63, Tryz.ntmps63
  go_wp2
  go_loopw [3, 4] (fun v i wr => SoRel l w v i wr) (fun _ i _ => l.length - (intOf i).toNat)
  case atStart => exact ⟨_, _, [], 0, rfl, by go_num, fun _ => rfl, .inl rfl, Lib.hid (by simp), rfl, OwnE.lit w _ _ (Nat.le_refl _), (Below.refl _ _).alloc (Nat.le_refl _) _⟩
  case round =>
    obtain ⟨A1, c1, L, j, rfl, rfl, hi0, hj, hL, hn, ho, hb⟩ := hrel
    have HB := Lib.hid hb; clear hb
    have HO := Lib.hid ho; clear ho
    have hsz := HB.out.size
    have hjl := jts_len l
    have HN := Lib.hid hn; clear hn
    by_cases hlt : j + 1 < l.length
    · have hji : (j : Int) + 1 < (l.length : Int) := by omega
      cases hi : isLn l
      · obtain rfl := hi0 hi
        go_wp2_with (go_at_call 106; refine (sIsLine_is A c l _ ((HS.out.below HB.out).mono HB.out.size) hl _ hi).mono ?_; rintro e w9 ⟨rfl, hb9⟩)
        go_ret
        refine ⟨A1, c1, L, Lib.hid ?_, rfl, HO.out.belowAll hb9, HB.out.trans (hb9.mono HB.out.size)⟩
        rw [hL.out, sgV_no hi]; rfl
      · obtain ⟨x0, x1, y0, y1, hx, hy, hjx⟩ := jts_at hlt
        have hxl : (jts l)[j]? = (sgV l)[j]? := by rw [sgV_yes hi]
        rw [hxl] at hjx
        have HX := Lib.hid hx; have HY := Lib.hid hy; have HJ := Lib.hid hjx
        obtain ⟨b, off, rfl, hbl, -⟩ := HS.out j _ hx
        clear hx hy hjx hxl
        have hw : IntKind.i64.wrap (j : Int) = j := IntWalk.i64_in _ (by omega)
        have hnn : (0 : Int) ≤ (j : Int) + 1 := by omega
        have hkl : (j : Int) < (l.length : Int) := by omega
        have hone : L.length + [(x0, x1, y0, y1)].length ≤ 1099511627776 := by have := HN.out; simp; omega
        go_wp2_with (go_at_call 106; refine (sIsLine_is _ c l _ ((HS.out.below HB.out).mono HB.out.size) hl _ hi).mono ?_; rintro e w9 ⟨rfl, hb9⟩; have HB9 := Lib.hid (HB.out.trans (hb9.mono HB.out.size)); have HO9 := Lib.hid (HO.out.belowAll hb9).drew; obtain ⟨k0, k1⟩ := cellsPoint (HS.out.below HB9.out) HX.out; obtain ⟨k2, k3⟩ := cellsPoint (HS.out.below HB9.out) HY.out)
        have hz9 : w.heap.size ≤ w9.drew.heap.size := HB9.out.size
        go_region_held3 (fun w' => w'.cell? ⟨b, off + j * 2, none⟩ = some (.int .i64 x0) ∧ w'.cell? ⟨b, off + j * 2 + 1, none⟩ = some (.int .i64 x1) ∧ w'.cell? ⟨b, off + (j + 1) * 2, none⟩ = some (.int .i64 y0) ∧ w'.cell? ⟨b, off + (j + 1) * 2 + 1, none⟩ = some (.int .i64 y1)) (first | exact ⟨k0, k1, k2, k3⟩ | exact ⟨keepA k0 _, keepA k1 _, keepA k2 _, keepA k3 _⟩ | exact hc4) (first
          | (refine stepSegment _ rfl _ _ rfl w.heap.size _ L rfl (HO9.out.alloc _) (w9.drew.heap.size + 1) _ 1 _ [(x0, x1, y0, y1)] rfl rfl (seesE_new elSegment w9.drew (x0, x1, y0, y1) _ _ _ (Nat.lt_succ_self _) rfl) hone (Nat.le_trans hz9 (sizeA _ _)) ?_; intro A4 c4 L4 w4 hL4 h1 h2 ho4 hb4; have hc4 := And.intro ((hb4.cell (p := ⟨b, off + j * 2, none⟩) hbl).trans (keepA k0 _)) (And.intro ((hb4.cell (p := ⟨b, off + j * 2 + 1, none⟩) hbl).trans (keepA k1 _)) (And.intro ((hb4.cell (p := ⟨b, off + (j + 1) * 2, none⟩) hbl).trans (keepA k2 _)) ((hb4.cell (p := ⟨b, off + (j + 1) * 2 + 1, none⟩) hbl).trans (keepA k3 _))))) | fail)
        go_wp2
        go_roundw
        case rel => exact ⟨A4, c4, L4, j + 1, rfl, by go_num, fun h => (by rw [hi] at h; cases h), .inr (by omega), Lib.hid (so_step hL.out hL4.out HJ.out), by have := HN.out; simp at h1 h2; omega, ho4, HB9.out.drew.trans (((Below.refl _ _).alloc hz9 _).trans hb4)⟩
        case measure => simp [intOf]; omega
    · have hji : ¬ ((j : Int) + 1 < (l.length : Int)) := by omega
      go_wp2
      go_ret
      refine ⟨A1, c1, L, Lib.hid ?_, rfl, HO.out, HB.out⟩
      rw [hL.out]
      cases hi : isLn l
      · rw [sgV_no hi, List.take_nil]
      · have := isLn_yes hi
        rw [sgV_yes hi]; exact List.take_of_length_le (by omega)
theorem stpV_step {L : List (Int × Int × Int × Int)} {j : Nat} {x : Int × Int × Int × Int} (hx : L[j]? = some x) : stpV (L.take j) + stS x = stpV (L.take (j + 1)) := by
  rw [List.take_add_one, hx]; exact (stpV_snoc _ _).symm
end Go.Proofs.YtbnjaaegbmhopaaGreatDoor
end
section
namespace Go.Proofs.YtbnjaaegbmhopaaGreatDoor
open Go.ChangeShapes Go.WideShapes Go.ChangeAt Go.RowKit
set_option linter.unusedVariables false

set_option maxRecDepth 100000 in
set_option maxHeartbeats 8000000 in
theorem sIsSimple_is (A : Option Addr) (c : Nat) (l : List (Int × Int)) (w : World) (hs : SeesE 2 encPoint w w.heap.size A l) (hl : l.length ≤ 1099511627776) (z : Bool) (hz : smpV l = z) :
    Calls Tryz.prog 104 #[.slice A l.length c] w fun e w' => e = .returned (.bool z) ∧ Below w.heap.size w w' := by
  have HS := Lib.hid hs; clear hs
  go_enter Tryz.func104, Tryz.ntmps104
  go_wp2_with (go_at_call 63; refine (sSegmentsOf_any A c l _ HS.out hl).mono ?_; rintro e w1 ⟨A1, c1, L, hL, rfl, ho1, hb1⟩)
  have HO1 := Lib.hid ho1; have HB1 := Lib.hid hb1
  have h9 : L.length ≤ 9 := by rw [hL.out]; exact sgV_len l
  have HL := hL
  have HZ := Lib.hid hz
  clear ho1 hb1 hL hz
  go_loopw [4] (fun i wr => ∃ j : Nat, j ≤ L.length ∧ i = .int .i64 j ∧ Hid (∀ k, k < j → ∀ i, i < k → mtOk (sgV l) i k = true) ∧ Hid (OwnE 4 encSegment wr w.heap.size 78 (.slice A1 L.length c1) L) ∧ Hid (Below w.heap.size w wr)) (fun i _ => L.length - (intOf i).toNat)
  case atStart => exact ⟨0, Nat.zero_le _, rfl, Lib.hid (fun k hk => by omega), HO1, HB1⟩
  case round =>
    obtain ⟨i, hi, rfl, hp, HO, HB⟩ := hrel
    clear HO1 HB1
    by_cases hlt : i < L.length
    · have hli : (i : Int) < (L.length : Int) := by omega
      go_wp2
      go_loopw [5] (fun k wx => ∃ j : Nat, j ≤ i ∧ k = .int .i64 j ∧ Hid (∀ q, q < j → mtOk (sgV l) q i = true) ∧ Hid (OwnE 4 encSegment wx w.heap.size 78 (.slice A1 L.length c1) L) ∧ Hid (Below w.heap.size w wx)) (fun k _ => i - (intOf k).toNat)
      case atStart => exact ⟨0, Nat.zero_le _, rfl, Lib.hid (fun k hk => by omega), HO, HB⟩
      case round =>
        obtain ⟨j, hj, rfl, hq, HO, HB⟩ := hrel
        by_cases hlj : j < i
        · have hlj' : (j : Int) < (L.length : Int) := by omega
          obtain ⟨b, off, v, rfl, hbl, hv, -⟩ := (HO.out.sees elSegment).lt hlt
          obtain ⟨u, hu⟩ : ∃ u, L[j]? = some u := ⟨_, List.getElem?_eq_getElem (by omega)⟩
          obtain ⟨k0, k1, k2, k3⟩ := cells4 (HO.out.sees elSegment) hu
          obtain ⟨k4, k5, k6, k7⟩ := cells4 (HO.out.sees elSegment) hv
          have HU := Lib.hid hu; have HV := Lib.hid hv
          have HU' : Hid ((sgV l)[j]? = some u) := Lib.hid (by rw [← HL.out]; exact hu)
          have HV' : Hid ((sgV l)[i]? = some v) := Lib.hid (by rw [← HL.out]; exact hv)
          clear hu hv
          obtain ⟨m, hm⟩ : ∃ m, howS v u = m := ⟨_, rfl⟩
          have HM : Hid (howS u v = m) := Lib.hid (by rw [← hm]; exact howS_comm v u)
          by_cases he : j + 1 = i
          · have he' : (j : Int) + 1 = (i : Int) := by omega
            have HWn : Hid (wantS j i = 1) := Lib.hid (if_pos he)
            by_cases h1 : m = 1
            · subst h1
              go_wp2
              go_region_held3 (fun w' => (w'.cell? ⟨b, off + j * 4, none⟩ = some (.int .i64 u.1) ∧ w'.cell? ⟨b, off + j * 4 + 1, none⟩ = some (.int .i64 u.2.1) ∧ w'.cell? ⟨b, off + j * 4 + 2, none⟩ = some (.int .i64 u.2.2.1) ∧ w'.cell? ⟨b, off + j * 4 + 3, none⟩ = some (.int .i64 u.2.2.2)) ∧ (w'.cell? ⟨b, off + i * 4, none⟩ = some (.int .i64 v.1) ∧ w'.cell? ⟨b, off + i * 4 + 1, none⟩ = some (.int .i64 v.2.1) ∧ w'.cell? ⟨b, off + i * 4 + 2, none⟩ = some (.int .i64 v.2.2.1) ∧ w'.cell? ⟨b, off + i * 4 + 3, none⟩ = some (.int .i64 v.2.2.2))) (first | exact ⟨⟨k0, k1, k2, k3⟩, ⟨k4, k5, k6, k7⟩⟩ | exact hQ) (first
                | (go_at_call 113; refine (sHowS_is v u _ _ hm).mono ?_; rintro e w9 ⟨rfl, hb9⟩; have HB9 := Lib.hid (HB.out.drew.trans (hb9.mono HB.out.size)); have HO9 := Lib.hid ((HO.out.drew).belowAll hb9); have hQ := And.intro (cells4 (HO9.out.sees elSegment) HU.out) (cells4 (HO9.out.sees elSegment) HV.out)) | fail)
              all_goals
                go_wp2
                go_roundw
                case rel => exact ⟨j + 1, by omega, by go_num, Lib.hid (upto_step hq.out (smp_ok HU'.out HV'.out (HM.out.trans HWn.out.symm))), HO9, HB9⟩
                case measure => simp [intOf]; omega
            · obtain rfl : z = false := HZ.out.symm.trans (smp_no HU'.out HV'.out hlj (by rw [HM.out, HWn.out]; exact h1))
              go_wp2
              go_region_held3 (fun w' => (w'.cell? ⟨b, off + j * 4, none⟩ = some (.int .i64 u.1) ∧ w'.cell? ⟨b, off + j * 4 + 1, none⟩ = some (.int .i64 u.2.1) ∧ w'.cell? ⟨b, off + j * 4 + 2, none⟩ = some (.int .i64 u.2.2.1) ∧ w'.cell? ⟨b, off + j * 4 + 3, none⟩ = some (.int .i64 u.2.2.2)) ∧ (w'.cell? ⟨b, off + i * 4, none⟩ = some (.int .i64 v.1) ∧ w'.cell? ⟨b, off + i * 4 + 1, none⟩ = some (.int .i64 v.2.1) ∧ w'.cell? ⟨b, off + i * 4 + 2, none⟩ = some (.int .i64 v.2.2.1) ∧ w'.cell? ⟨b, off + i * 4 + 3, none⟩ = some (.int .i64 v.2.2.2))) (first | exact ⟨⟨k0, k1, k2, k3⟩, ⟨k4, k5, k6, k7⟩⟩ | exact hQ) (first
                | (go_at_call 113; refine (sHowS_is v u _ _ hm).mono ?_; rintro e w9 ⟨rfl, hb9⟩; have HB9 := Lib.hid (HB.out.drew.trans (hb9.mono HB.out.size)); have HO9 := Lib.hid ((HO.out.drew).belowAll hb9); have hQ := And.intro (cells4 (HO9.out.sees elSegment) HU.out) (cells4 (HO9.out.sees elSegment) HV.out)) | fail)
              all_goals
                go_wp2
                go_ret
                exact ⟨rfl, HB9.out⟩
          · have he' : ¬ ((j : Int) + 1 = (i : Int)) := by omega
            have HWn : Hid (wantS j i = 0) := Lib.hid (if_neg he)
            by_cases h1 : m = 0
            · subst h1
              go_wp2
              go_region_held3 (fun w' => (w'.cell? ⟨b, off + j * 4, none⟩ = some (.int .i64 u.1) ∧ w'.cell? ⟨b, off + j * 4 + 1, none⟩ = some (.int .i64 u.2.1) ∧ w'.cell? ⟨b, off + j * 4 + 2, none⟩ = some (.int .i64 u.2.2.1) ∧ w'.cell? ⟨b, off + j * 4 + 3, none⟩ = some (.int .i64 u.2.2.2)) ∧ (w'.cell? ⟨b, off + i * 4, none⟩ = some (.int .i64 v.1) ∧ w'.cell? ⟨b, off + i * 4 + 1, none⟩ = some (.int .i64 v.2.1) ∧ w'.cell? ⟨b, off + i * 4 + 2, none⟩ = some (.int .i64 v.2.2.1) ∧ w'.cell? ⟨b, off + i * 4 + 3, none⟩ = some (.int .i64 v.2.2.2))) (first | exact ⟨⟨k0, k1, k2, k3⟩, ⟨k4, k5, k6, k7⟩⟩ | exact hQ) (first
                | (go_at_call 113; refine (sHowS_is v u _ _ hm).mono ?_; rintro e w9 ⟨rfl, hb9⟩; have HB9 := Lib.hid (HB.out.drew.trans (hb9.mono HB.out.size)); have HO9 := Lib.hid ((HO.out.drew).belowAll hb9); have hQ := And.intro (cells4 (HO9.out.sees elSegment) HU.out) (cells4 (HO9.out.sees elSegment) HV.out)) | fail)
              all_goals
                go_wp2
                go_roundw
                case rel => exact ⟨j + 1, by omega, by go_num, Lib.hid (upto_step hq.out (smp_ok HU'.out HV'.out (HM.out.trans HWn.out.symm))), HO9, HB9⟩
                case measure => simp [intOf]; omega
            · obtain rfl : z = false := HZ.out.symm.trans (smp_no HU'.out HV'.out hlj (by rw [HM.out, HWn.out]; exact h1))
              go_wp2
              go_region_held3 (fun w' => (w'.cell? ⟨b, off + j * 4, none⟩ = some (.int .i64 u.1) ∧ w'.cell? ⟨b, off + j * 4 + 1, none⟩ = some (.int .i64 u.2.1) ∧ w'.cell? ⟨b, off + j * 4 + 2, none⟩ = some (.int .i64 u.2.2.1) ∧ w'.cell? ⟨b, off + j * 4 + 3, none⟩ = some (.int .i64 u.2.2.2)) ∧ (w'.cell? ⟨b, off + i * 4, none⟩ = some (.int .i64 v.1) ∧ w'.cell? ⟨b, off + i * 4 + 1, none⟩ = some (.int .i64 v.2.1) ∧ w'.cell? ⟨b, off + i * 4 + 2, none⟩ = some (.int .i64 v.2.2.1) ∧ w'.cell? ⟨b, off + i * 4 + 3, none⟩ = some (.int .i64 v.2.2.2))) (first | exact ⟨⟨k0, k1, k2, k3⟩, ⟨k4, k5, k6, k7⟩⟩ | exact hQ) (first
                | (go_at_call 113; refine (sHowS_is v u _ _ hm).mono ?_; rintro e w9 ⟨rfl, hb9⟩; have HB9 := Lib.hid (HB.out.drew.trans (hb9.mono HB.out.size)); have HO9 := Lib.hid ((HO.out.drew).belowAll hb9); have hQ := And.intro (cells4 (HO9.out.sees elSegment) HU.out) (cells4 (HO9.out.sees elSegment) HV.out)) | fail)
              all_goals
                go_wp2
                go_ret
                exact ⟨rfl, HB9.out⟩
        · obtain rfl : j = i := by omega
          go_wp2
          go_roundw
          case rel => exact ⟨j + 1, by omega, by go_num, Lib.hid (upto_step hp.out hq.out), HO, HB⟩
          case measure => simp [intOf]; omega
    · obtain rfl : i = L.length := by omega
      go_wp2_with (go_at_call 106; refine (sIsLine_is A c l _ ((HS.out.below HB.out).mono HB.out.size) hl z ?_).mono ?_)
      · rw [HL.out] at hp; exact (smp_all hp.out).trans HZ.out
      · rintro e w9 ⟨rfl, hb9⟩
        go_wp2
        go_ret
        exact ⟨rfl, HB.out.trans (hb9.mono HB.out.size)⟩
theorem mxS_step {n : Int} {s : Int × Int × Int × Int} {T : List (Int × Int × Int × Int)} {j : Nat} {x : Int × Int × Int × Int} (hx : T[j]? = some x) : extV true (mxS n s (T.take j)) (howS s x) = mxS n s (T.take (j + 1)) := by
  rw [List.take_add_one, hx]; exact (mxS_snoc _ _ _ _).symm
theorem mtV_step {S T : List (Int × Int × Int × Int)} {i : Nat} {u : Int × Int × Int × Int} (hu : S[i]? = some u) : mxS (mtV (S.take i) T) u T = mtV (S.take (i + 1)) T := by
  rw [List.take_add_one, hu]; exact (mtV_snoc _ _ _).symm
end Go.Proofs.YtbnjaaegbmhopaaGreatDoor
end
