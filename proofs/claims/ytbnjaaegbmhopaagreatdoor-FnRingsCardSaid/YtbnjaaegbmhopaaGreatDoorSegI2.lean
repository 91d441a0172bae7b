/- Segments: the functions of chapter 5 in package impl, by their values. -/
import Derived.Test.YtbnjaaegbmhopaaGreatDoorSegI
namespace Go.Proofs.YtbnjaaegbmhopaaGreatDoor
open Go.ChangeShapes Go.WideShapes Go.ChangeAt Go.RowKit
set_option linter.unusedVariables false

abbrev NoC : Array Value := #[.int .i64 0, .int .i64 0, .int .i64 0, .int .i64 0, .int .i64 0, .int .i64 0, .int .i64 0, .int .i64 0]
theorem assertS_no (w : World) : (Instr.typeAssert (.iface 199 (.agg #[])) 168 125 true).run Tryz.prog w = .ok (.tuple #[.agg NoC, .bool false]) w := by kernel_rfl
theorem assertS_yes (a b c d p q r s : Int) (w : World) : (Instr.typeAssert (.iface 125 (.agg #[.int .i64 a, .int .i64 b, .int .i64 c, .int .i64 d, .int .i64 p, .int .i64 q, .int .i64 r, .int .i64 s])) 168 125 true).run Tryz.prog w = .ok (.tuple #[.agg #[.int .i64 a, .int .i64 b, .int .i64 c, .int .i64 d, .int .i64 p, .int .i64 q, .int .i64 r, .int .i64 s], .bool true]) w := by kernel_rfl
theorem boxS_no (a b c d : Int) (w : World) (hs : isS a b c d = false) :
    Calls Tryz.prog 89 #[SegV a b c d] w fun e w' => e = .returned (.tuple #[.agg NoC, .bool false]) ∧ Below w.heap.size w w' := by
  go_enter Tryz.func89, Tryz.ntmps89
  have ha := assertS_no
  go_wp2_with fail
  refine (outline_no a b c d _ hs).mono ?_
  rintro e w1 ⟨rfl, hb1⟩
  have HB := Lib.hid ((Vars.of2 w (SegC a b c d) NoC 78 125).next hb1)
  clear hb1
  have hB := HB.out.al (.cells NoC 125)
  obtain ⟨k0, k1, k2, k3, k4, k5, k6, k7⟩ := hB.c8 (w.heap.size + 1) 1 rfl rfl
  obtain ⟨f0, f1, f2, f3, f4, f5, f6, f7⟩ := HB.out.fr81
  obtain ⟨g0, g1, g2, g3, g4, g5, g6, g7⟩ := hB.fr81
  have hn : ¬ w.heap.size + 1 = w1.heap.size := by have := HB.out.more2; omega
  go_wp2
  refine bodyPost_ret (v := .tuple #[.agg NoC, .bool false]) (by simp [results, Tryz.results89, go_sem, k0, k1, k2, k3, k4, k5, k6, k7]) rfl ?_
  exact ⟨rfl, hB.set80 (by omega) _ _ _ _ _ _ _ _⟩
theorem boxS_yes (a b c d : Int) (w : World) (hs : isS a b c d = true) :
    Calls Tryz.prog 89 #[SegV a b c d] w fun e w' => e = .returned (.tuple #[.agg (BoxedC a b c d), .bool true]) ∧ Below w.heap.size w w' := by
  go_enter Tryz.func89, Tryz.ntmps89
  have ha := assertS_yes a b c d (min a c) (min b d) (max a c) (max b d)
  go_wp2_with fail
  refine (outline_yes a b c d _ hs).mono ?_
  rintro e w1 ⟨rfl, hb1⟩
  have HB := Lib.hid ((Vars.of2 w (SegC a b c d) NoC 78 125).next hb1)
  clear hb1
  have hB := HB.out.al (.cells (BoxedC a b c d) 125)
  obtain ⟨k0, k1, k2, k3, k4, k5, k6, k7⟩ := hB.c8 (w.heap.size + 1) 1 rfl rfl
  obtain ⟨f0, f1, f2, f3, f4, f5, f6, f7⟩ := HB.out.fr81
  obtain ⟨g0, g1, g2, g3, g4, g5, g6, g7⟩ := hB.fr81
  have hn : ¬ w.heap.size + 1 = w1.heap.size := by have := HB.out.more2; omega
  go_wp2
  refine bodyPost_ret (v := .tuple #[.agg (BoxedC a b c d), .bool true]) (by simp [results, Tryz.results89, go_sem, k0, k1, k2, k3, k4, k5, k6, k7]) rfl ?_
  exact ⟨rfl, hB.set80 (by omega) _ _ _ _ _ _ _ _⟩
/-- A side's mark. -/
def runeV (z : Int) : Int := if z = 1 then 43 else if z = -1 then 45 else 48
theorem markSide_any (a b c d x y : Int) (w : World) :
    Calls Tryz.prog 91 #[SegV a b c d, PtV x y] w fun e w' => e = .returned (.int .i32 (runeV (sideV a b c d x y))) ∧ Below w.heap.size w w' := by
  have HB := Lib.hid (Vars.of2 w (SegC a b c d) (PtC x y) 78 33)
  obtain ⟨z, hz⟩ : ∃ z, sideV a b c d x y = z := ⟨_, rfl⟩
  have hc := cmp_bd ((c - a) * (y - b)) ((d - b) * (x - a))
  have hzc : z = 1 ∨ z = 0 ∨ z = -1 := by
    rw [← hz]; unfold sideV; split
    · omega
    · exact .inr (.inl rfl)
  clear hc
  rw [hz]
  go_enter Tryz.func91, Tryz.ntmps91
  go_wp2_with fail
  refine (sideOf_any a b c d x y _).mono ?_
  rw [hz]
  rintro e w1 ⟨rfl, hb1⟩
  have HB1 := Lib.hid (HB.out.next hb1)
  clear hb1 HB hz
  rcases hzc with rfl | rfl | rfl
  all_goals
    go_wp2
    go_ret
    exact ⟨rfl, HB1.out.1⟩
end Go.Proofs.YtbnjaaegbmhopaaGreatDoor
