/- append of points and of segments as one step of a drawn region. -/
import Derived.Test.YtbnjaaegbmhopaaGreatDoorHelpE
namespace Go.Proofs.YtbnjaaegbmhopaaGreatDoor
open Go.ChangeShapes Go.WideShapes Go.ChangeAt Go.RowKit
set_option linter.unusedVariables false

theorem stepPt (w : World) {o : Oper} {a : Act} {K : Act → World → Prop} {Q : Exit → Act → World → Prop} (s x : Operand)
    (ho : o.op = .call { callee := .builtin .append, args := #[s, x], argTypes := #[24, 24] })
    (base : Nat) (v : Value) (l : List (Int × Int)) (hv : a.eval s = v) (hown : OwnE 2 encPoint w base 33 v l)
    (B : Nat) (A : Option Addr) (m c : Nat) (l2 : List (Int × Int)) (hx : a.eval x = .slice A m c) (hm : m = l2.length) (hs : SeesE 2 encPoint w B A l2) (h63 : l.length + l2.length ≤ 1099511627776) (hbase : base ≤ w.heap.size)
    (h : ∀ A' c' L w', Hid (L = l ++ l2) → L.length ≤ l.length + l2.length → l.length + l2.length ≤ L.length → OwnE 2 encPoint w' base 33 (.slice A' L.length c') L → Below base w w' → K (a.put o.dst (.slice A' L.length c')) w') :
    o.wp Tryz.prog a w K Q := by
  obtain ⟨i, hi, hz, h1, h2⟩ := info_parts infoPoint
  exact wp_appE w elPoint s x _ ho _ i _ 16 Tryz.underlying24 hi hz h1 h2 rfl base v l hv hown B A m c l2 hx hm hs h63 (by decide) hbase h
theorem stepSg (w : World) {o : Oper} {a : Act} {K : Act → World → Prop} {Q : Exit → Act → World → Prop} (s x : Operand)
    (ho : o.op = .call { callee := .builtin .append, args := #[s, x], argTypes := #[38, 38] })
    (base : Nat) (v : Value) (l : List (Int × Int × Int × Int)) (hv : a.eval s = v) (hown : OwnE 4 encSegment w base 78 v l)
    (B : Nat) (A : Option Addr) (m c : Nat) (l2 : List (Int × Int × Int × Int)) (hx : a.eval x = .slice A m c) (hm : m = l2.length) (hs : SeesE 4 encSegment w B A l2) (h63 : l.length + l2.length ≤ 1099511627776) (hbase : base ≤ w.heap.size)
    (h : ∀ A' c' L w', Hid (L = l ++ l2) → L.length ≤ l.length + l2.length → l.length + l2.length ≤ L.length → OwnE 4 encSegment w' base 78 (.slice A' L.length c') L → Below base w w' → K (a.put o.dst (.slice A' L.length c')) w') :
    o.wp Tryz.prog a w K Q := by
  obtain ⟨i, hi, hz, h1, h2⟩ := info_parts infoSegment
  exact wp_appE w elSegment s x _ ho _ i _ 32 Tryz.underlying38 hi hz h1 h2 rfl base v l hv hown B A m c l2 hx hm hs h63 (by decide) hbase h
end Go.Proofs.YtbnjaaegbmhopaaGreatDoor
