/- The laws' own helpers over slices of structs. -/
import Derived.Test.YtjnbdbgkecfkcabEl
import Derived.Test.YtjnbdbgkecfkcabPoint4
import Derived.Test.YtjnbdbgkecfkcabVars2
import Derived.LoopTactic
import Derived.Deep.RegionHeld3
import Derived.Deep.LoopGhost
namespace Go.Proofs.Ytjnbdbgkecfkcab
open Go.ChangeShapes Go.WideShapes Go.ChangeAt Go.RowKit
set_option linter.unusedVariables false

theorem eqPoint_same (a b : Int) (w : World) :
    Calls Try.prog 27 #[.agg #[.int .i64 a, .int .i64 b], .agg #[.int .i64 a, .int .i64 b]] w fun e w' => e = .returned (.bool true) ∧ Below w.heap.size w w' :=
  (eqPoint_any a b a b w).mono fun e w' h => ⟨by rw [h.1]; simp, h.2⟩
/- []Point -/
def encPoint (x : Int × Int) : List Value := [.int .i64 x.1, .int .i64 x.2]
theorem elPoint : IsEl 2 encPoint := ⟨by decide, fun x => ⟨rfl, fun u hu => by simp only [encPoint, List.mem_cons, List.not_mem_nil, or_false] at hu; rcases hu with rfl | rfl <;> rfl⟩⟩
theorem rowPoint_set {w : World} {g c : Nat} {e : TypeId} {L : List (Int × Int)} {j : Nat} (h : RowE 2 encPoint w g e c L) (hj : j < L.length) (t0 t1 : Int) : RowE 2 encPoint ((w.setCell ⟨g, j * 2, none⟩ (.int .i64 t0)).setCell ⟨g, j * 2 + 1, none⟩ (.int .i64 t1)) g e c (L.set j (t0, t1)) := by
  obtain ⟨⟨y0, y1⟩, hx⟩ : ∃ x, L[j]? = some x := ⟨_, List.getElem?_eq_getElem hj⟩
  have h0 := h
  have h1 := h0.put elPoint (k := 0) (x' := (t0, y1)) (v := .int .i64 t0) hx (by decide) rfl
  have h2 := h1.put elPoint (k := 1) (x' := (t0, t1)) (v := .int .i64 t1) (List.getElem?_set_self (by simpa using hj)) (by decide) rfl
  simp only [List.set_set, Nat.add_zero] at h2
  exact h2
/-- The cells of one element. -/
theorem cellsPoint {w : World} {B : Nat} {b off j : Nat} {l : List (Int × Int)} {t0 t1 : Int} (h : SeesE 2 encPoint w B (some ⟨b, off, none⟩) l) (hj : l[j]? = some (t0, t1)) : w.cell? ⟨b, off + j * 2, none⟩ = some (.int .i64 t0) ∧ w.cell? ⟨b, off + j * 2 + 1, none⟩ = some (.int .i64 t1) :=
  ⟨h.cells hj (k := 0) rfl, h.cells hj (k := 1) rfl⟩
theorem rowCellsPoint {w : World} {g c j : Nat} {e : TypeId} {L : List (Int × Int)} {t0 t1 : Int} (h : RowE 2 encPoint w g e c L) (hj : L[j]? = some (t0, t1)) : w.cell? ⟨g, j * 2, none⟩ = some (.int .i64 t0) ∧ w.cell? ⟨g, j * 2 + 1, none⟩ = some (.int .i64 t1) :=
  ⟨h.cell elPoint hj (k := 0) rfl, h.cell elPoint hj (k := 1) rfl⟩
theorem rowFrozenPoint {w : World} {g c : Nat} {e : TypeId} {L : List (Int × Int)} (h : RowE 2 encPoint w g e c L) (j : Nat) : w.frozen? ⟨g, j * 2, none⟩ = false ∧ w.frozen? ⟨g, j * 2 + 1, none⟩ = false :=
  ⟨h.frozen _, h.frozen _⟩
theorem infoPoint : (Try.prog.info? 27).map (fun i => (i.zero, i.size, i.bytes)) = some (some (.agg #[.int .i64 0, .int .i64 0]), 2, 16) := by kernel_rfl
/-- append onto the call's own. -/
theorem appPoint (w : World) {ops : Array Oper} {rest : List Oper} {o : Oper} {a : Act} {Q : Exit → Act → World → Prop} (hgd : o.guard = none) (s x : Operand)
    (ho : o.op = .call { callee := .builtin .append, args := #[s, x], argTypes := #[46, 46] })
    (base : Nat) (v : Value) (l : List (Int × Int)) (hv : a.eval s = v) (hown : OwnE 2 encPoint w base 27 v l)
    (B : Nat) (A : Option Addr) (m c : Nat) (l2 : List (Int × Int)) (hx : a.eval x = .slice A m c) (hm : m = l2.length) (hs : SeesE 2 encPoint w B A l2) (h63 : l.length + l2.length ≤ 1099511627776) (hbase : base ≤ w.heap.size)
    (h : ∀ A' c' L w', Hid (L = l ++ l2) → L.length ≤ l.length + l2.length → l.length + l2.length ≤ L.length → OwnE 2 encPoint w' base 27 (.slice A' L.length c') L → Below base w w' → wpList Try.prog ops Q rest (a.put o.dst (.slice A' L.length c')) w') :
    wpList Try.prog ops Q (o :: rest) a w := by
  obtain ⟨i, hi, hz, h1, h2⟩ := info_parts infoPoint
  exact wpList_appE w elPoint hgd s x _ ho _ i _ 16 Try.underlying46 hi hz h1 h2 rfl base v l hv hown B A m c l2 hx hm hs h63 (by decide) hbase h
theorem makePoint (w : World) {ops : Array Oper} {rest : List Oper} {o : Oper} {a : Act} {Q : Exit → Act → World → Prop}
    (hg : o.guard = none) (l c : Operand) (hop : o.op = Op.makeSlice 46 l c) (kl kc : IntKind) (m : Nat) (hl : a.eval l = .int kl (m : Int)) (hc : a.eval c = .int kc (m : Int)) (hn : m ≤ 1099511627776)
    (hK : ∀ w', RowE 2 encPoint w' w.heap.size 27 m (List.replicate m (0, 0)) → Below w.heap.size w w' → wpList Try.prog ops Q rest (a.put o.dst (.slice (some ⟨w.heap.size, 0, none⟩) m m)) w') :
    wpList Try.prog ops Q (o :: rest) a w := by
  obtain ⟨i, hi, hz, h1, h2⟩ := info_parts infoPoint
  exact wpList_make_rowE w elPoint hg l c _ hop _ i _ (0, 0) 16 Try.underlying46 hi hz h1 h2 (by decide) rfl kl kc m hl hc hn hK
end Go.Proofs.Ytjnbdbgkecfkcab
