/- Segments: the functions of chapter 5 in package impl, by their values. -/
import Derived.Test.YtpbmngbigdaklaaDoorSegI
namespace Go.Proofs.YtpbmngbigdaklaaDoor
open Go.ChangeShapes Go.WideShapes Go.ChangeAt Go.RowKit
set_option linter.unusedVariables false

abbrev NoC : Array Value := #[.int .i64 0, .int .i64 0, .int .i64 0, .int .i64 0, .int .i64 0, .int .i64 0, .int .i64 0, .int .i64 0]
theorem assertS_no (w : World) : (Instr.typeAssert (.iface 101 (.agg #[])) 92 77 true).run Tryd.prog w = .ok (.tuple #[.agg NoC, .bool false]) w := by kernel_rfl
theorem assertS_yes (a b c d p q r s : Int) (w : World) : (Instr.typeAssert (.iface 77 (.agg #[.int .i64 a, .int .i64 b, .int .i64 c, .int .i64 d, .int .i64 p, .int .i64 q, .int .i64 r, .int .i64 s])) 92 77 true).run Tryd.prog w = .ok (.tuple #[.agg #[.int .i64 a, .int .i64 b, .int .i64 c, .int .i64 d, .int .i64 p, .int .i64 q, .int .i64 r, .int .i64 s], .bool true]) w := by kernel_rfl
theorem boxS_no (a b c d : Int) (w : World) (hs : isS a b c d = false) :
    Calls Tryd.prog 50 #[SegV a b c d] w fun e w' => e = .returned (.tuple #[.agg NoC, .bool false]) ∧ Below w.heap.size w w' := by
  go_enter Tryd.func50, Tryd.ntmps50
  have ha := assertS_no
  go_wp2_with fail
  refine (outline_no a b c d _ hs).mono ?_
  rintro e w1 ⟨rfl, hb1⟩
  have HB := Lib.hid ((Vars.of2 w (SegC a b c d) NoC 35 77).next hb1)
  clear hb1
  have hB := HB.out.al (.cells NoC 77)
  obtain ⟨k0, k1, k2, k3, k4, k5, k6, k7⟩ := hB.c8 (w.heap.size + 1) 1 rfl rfl
  obtain ⟨f0, f1, f2, f3, f4, f5, f6, f7⟩ := HB.out.fr81
  obtain ⟨g0, g1, g2, g3, g4, g5, g6, g7⟩ := hB.fr81
  have hn : ¬ w.heap.size + 1 = w1.heap.size := by have := HB.out.more2; omega
  go_wp2
  refine bodyPost_ret (v := .tuple #[.agg NoC, .bool false]) (by simp [results, Tryd.results50, go_sem, k0, k1, k2, k3, k4, k5, k6, k7]) rfl ?_
  exact ⟨rfl, hB.set80 (by omega) _ _ _ _ _ _ _ _⟩
theorem boxS_yes (a b c d : Int) (w : World) (hs : isS a b c d = true) :
    Calls Tryd.prog 50 #[SegV a b c d] w fun e w' => e = .returned (.tuple #[.agg (BoxedC a b c d), .bool true]) ∧ Below w.heap.size w w' := by
  go_enter Tryd.func50, Tryd.ntmps50
  have ha := assertS_yes a b c d (min a c) (min b d) (max a c) (max b d)
  go_wp2_with fail
  refine (outline_yes a b c d _ hs).mono ?_
  rintro e w1 ⟨rfl, hb1⟩
  have HB := Lib.hid ((Vars.of2 w (SegC a b c d) NoC 35 77).next hb1)
  clear hb1
  have hB := HB.out.al (.cells (BoxedC a b c d) 77)
  obtain ⟨k0, k1, k2, k3, k4, k5, k6, k7⟩ := hB.c8 (w.heap.size + 1) 1 rfl rfl
  obtain ⟨f0, f1, f2, f3, f4, f5, f6, f7⟩ := HB.out.fr81
  obtain ⟨g0, g1, g2, g3, g4, g5, g6, g7⟩ := hB.fr81
  have hn : ¬ w.heap.size + 1 = w1.heap.size := by have := HB.out.more2; omega
  go_wp2
  refine bodyPost_ret (v := .tuple #[.agg (BoxedC a b c d), .bool true]) (by simp [results, Tryd.results50, go_sem, k0, k1, k2, k3, k4, k5, k6, k7]) rfl ?_
  exact ⟨rfl, hB.set80 (by omega) _ _ _ _ _ _ _ _⟩
/-- A side's mark. -/
def runeV (z : Int) : Int := if z = 1 then 43 else if z = -1 then 45 else 48
end Go.Proofs.YtpbmngbigdaklaaDoor
