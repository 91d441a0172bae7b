/- The laws' own helpers over slices of structs. -/
import Derived.Test.YtbnjaaegbmhopaaGreatDoorEl
import Derived.Test.YtbnjaaegbmhopaaGreatDoorPoint4
import Derived.Test.YtbnjaaegbmhopaaGreatDoorVars2
import Derived.Test.YtbnjaaegbmhopaaGreatDoorLawSegTo
import Derived.Test.YtbnjaaegbmhopaaGreatDoorMeetTo
import Derived.LoopTactic
import Derived.Deep.RegionHeld3
import Derived.Deep.LoopGhost
namespace Go.Proofs.YtbnjaaegbmhopaaGreatDoor
open Go.ChangeShapes Go.WideShapes Go.ChangeAt Go.RowKit
set_option linter.unusedVariables false

theorem eqPoint_same (a b : Int) (w : World) :
    Calls Tryz.prog 111 #[.agg #[.int .i64 a, .int .i64 b], .agg #[.int .i64 a, .int .i64 b]] w fun e w' => e = .returned (.bool true) ∧ Below w.heap.size w w' :=
  (eqPoint_any a b a b w).mono fun e w' h => ⟨by rw [h.1]; simp, h.2⟩
/- []Point -/
def encPoint (x : Int × Int) : List Value := [.int .i64 x.1, .int .i64 x.2]
theorem elPoint : IsEl 2 encPoint := ⟨by decide, fun x => ⟨rfl, fun u hu => by simp only [encPoint, List.mem_cons, List.not_mem_nil, or_false] at hu; rcases hu with rfl | rfl <;> rfl⟩⟩
theorem rowPoint_set {w : World} {g c : Nat} {e : TypeId} {L : List (Int × Int)} {j : Nat} (h : RowE 2 encPoint w g e c L) (hj : j < L.length) (t0 t1 : Int) : RowE 2 encPoint ((w.setCell ⟨g, j * 2, none⟩ (.int .i64 t0)).setCell ⟨g, j * 2 + 1, none⟩ (.int .i64 t1)) g e c (L.set j (t0, t1)) := by
  obtain ⟨⟨y0, y1⟩, hx⟩ : ∃ x, L[j]? = some x := ⟨_, List.getElem?_eq_getElem hj⟩
  have h0 := h
  have h1 := h0.put elPoint (k := 0) (x' := (t0, y1)) (v := .int .i64 t0) hx (by decide) rfl
  have h2 := h1.put elPoint (k := 1) (x' := (t0, t1)) (v := .int .i64 t1) (List.getElem?_set_self (by simpa using hj)) (by decide) rfl
  simp only [List.set_set, Nat.add_zero] at h2
  exact h2
/-- The cells of one element. -/
theorem cellsPoint {w : World} {B : Nat} {b off j : Nat} {l : List (Int × Int)} {t0 t1 : Int} (h : SeesE 2 encPoint w B (some ⟨b, off, none⟩) l) (hj : l[j]? = some (t0, t1)) : w.cell? ⟨b, off + j * 2, none⟩ = some (.int .i64 t0) ∧ w.cell? ⟨b, off + j * 2 + 1, none⟩ = some (.int .i64 t1) :=
  ⟨h.cells hj (k := 0) rfl, h.cells hj (k := 1) rfl⟩
theorem rowCellsPoint {w : World} {g c j : Nat} {e : TypeId} {L : List (Int × Int)} {t0 t1 : Int} (h : RowE 2 encPoint w g e c L) (hj : L[j]? = some (t0, t1)) : w.cell? ⟨g, j * 2, none⟩ = some (.int .i64 t0) ∧ w.cell? ⟨g, j * 2 + 1, none⟩ = some (.int .i64 t1) :=
  ⟨h.cell elPoint hj (k := 0) rfl, h.cell elPoint hj (k := 1) rfl⟩
theorem rowFrozenPoint {w : World} {g c : Nat} {e : TypeId} {L : List (Int × Int)} (h : RowE 2 encPoint w g e c L) (j : Nat) : w.frozen? ⟨g, j * 2, none⟩ = false ∧ w.frozen? ⟨g, j * 2 + 1, none⟩ = false :=
  ⟨h.frozen _, h.frozen _⟩
theorem infoPoint : (Tryz.prog.info? 33).map (fun i => (i.zero, i.size, i.bytes)) = some (some (.agg #[.int .i64 0, .int .i64 0]), 2, 16) := by kernel_rfl
/-- append onto the call's own. -/
theorem appPoint (w : World) {ops : Array Oper} {rest : List Oper} {o : Oper} {a : Act} {Q : Exit → Act → World → Prop} (hgd : o.guard = none) (s x : Operand)
    (ho : o.op = .call { callee := .builtin .append, args := #[s, x], argTypes := #[24, 24] })
    (base : Nat) (v : Value) (l : List (Int × Int)) (hv : a.eval s = v) (hown : OwnE 2 encPoint w base 33 v l)
    (B : Nat) (A : Option Addr) (m c : Nat) (l2 : List (Int × Int)) (hx : a.eval x = .slice A m c) (hm : m = l2.length) (hs : SeesE 2 encPoint w B A l2) (h63 : l.length + l2.length ≤ 1099511627776) (hbase : base ≤ w.heap.size)
    (h : ∀ A' c' L w', Hid (L = l ++ l2) → L.length ≤ l.length + l2.length → l.length + l2.length ≤ L.length → OwnE 2 encPoint w' base 33 (.slice A' L.length c') L → Below base w w' → wpList Tryz.prog ops Q rest (a.put o.dst (.slice A' L.length c')) w') :
    wpList Tryz.prog ops Q (o :: rest) a w := by
  obtain ⟨i, hi, hz, h1, h2⟩ := info_parts infoPoint
  exact wpList_appE w elPoint hgd s x _ ho _ i _ 16 Tryz.underlying24 hi hz h1 h2 rfl base v l hv hown B A m c l2 hx hm hs h63 (by decide) hbase h
theorem makePoint (w : World) {ops : Array Oper} {rest : List Oper} {o : Oper} {a : Act} {Q : Exit → Act → World → Prop}
    (hg : o.guard = none) (l c : Operand) (hop : o.op = Op.makeSlice 24 l c) (kl kc : IntKind) (m : Nat) (hl : a.eval l = .int kl (m : Int)) (hc : a.eval c = .int kc (m : Int)) (hn : m ≤ 1099511627776)
    (hK : ∀ w', RowE 2 encPoint w' w.heap.size 33 m (List.replicate m (0, 0)) → Below w.heap.size w w' → wpList Tryz.prog ops Q rest (a.put o.dst (.slice (some ⟨w.heap.size, 0, none⟩) m m)) w') :
    wpList Tryz.prog ops Q (o :: rest) a w := by
  obtain ⟨i, hi, hz, h1, h2⟩ := info_parts infoPoint
  exact wpList_make_rowE w elPoint hg l c _ hop _ i _ (0, 0) 16 Tryz.underlying24 hi hz h1 h2 (by decide) rfl kl kc m hl hc hn hK
theorem szPointS_yes (A : Option Addr) (len c : Nat) (left : Int) (w : World) (h : (len : Int) ≤ left) (h' : left ≤ 1048576) :
    Calls Tryz.prog 61 #[.slice A len c, .int .i64 left] w fun e w' => e = .returned (.int .i64 (left - len)) ∧ w = w' := by
  go_enter Tryz.func61, Tryz.ntmps61
  have hlt : ¬ left - (len : Int) < 0 := by omega
  go_wp2
  go_ret
  exact ⟨rfl, rfl⟩
theorem szPointS_no (A : Option Addr) (len c : Nat) (left : Int) (w : World) (h : left < (len : Int)) (h' : 0 ≤ left) (hm : len ≤ 9223372036854775807) :
    Calls Tryz.prog 61 #[.slice A len c, .int .i64 left] w fun e w' => e = .returned (.int .i64 (-1)) ∧ w = w' := by
  go_enter Tryz.func61, Tryz.ntmps61
  have hlt : left - (len : Int) < 0 := by omega
  go_wp2
  go_ret
  exact ⟨rfl, rfl⟩
def ToPointRel (B : Nat) (l : List (Int × Int)) (w : World) (i : Value) (wr : World) : Prop :=
  ∃ (j : Nat) (L : List (Int × Int)), j ≤ l.length ∧ i = .int .i64 j ∧ L.length = l.length ∧ FillE (fun i => l[i]?) j L ∧ RowE 2 encPoint wr B 33 l.length L ∧ Below B w wr
theorem toPointS_any (A : Option Addr) (c : Nat) (l : List (Int × Int)) (w : World) (hs : SeesE 2 encPoint w w.heap.size A l) (hl : l.length ≤ 1099511627776) :
    Calls Tryz.prog 65 #[.slice A l.length c] w (GivesE 2 encPoint 33 l w) := by
  have HS := Lib.hid hs; clear hs
  go_enter Tryz.func65, Tryz.ntmps65
  go_wp2_with (at_make; refine makePoint w rfl _ _ rfl .i64 .i64 l.length rfl rfl hl ?_; intro w1 hrow hb1)
  have HR := Lib.hid hrow; clear hrow
  have HB := Lib.hid hb1; clear hb1
  go_loopw [4] (fun i wr => ToPointRel w.heap.size l w i wr) (fun i _ => l.length - (intOf i).toNat)
  case atStart => exact ⟨0, _, Nat.zero_le _, rfl, by simp, FillE.zero _ _, HR.out, HB.out⟩
  case round =>
    obtain ⟨j, L, hj, rfl, hL, hf, hr, hb⟩ := hrel
    clear HR HB
    have HL := Lib.hid hL; clear hL
    by_cases hlt : j < l.length
    · obtain ⟨b, off, ⟨t0, t1⟩, rfl, hbl, hx, -⟩ := (HS.out.below hb).lt hlt
      have HX := Lib.hid hx
      obtain ⟨k0, k1⟩ := cellsPoint (HS.out.below hb) hx
      have HF := Lib.hid hf; clear hf
      have HR := Lib.hid hr; clear hr
      have HB := Lib.hid hb; clear hb
      clear hx
      go_wp2_with fail
      refine (toPoint_any t0 t1 _).mono ?_
      rintro e w9 ⟨rfl, hb9⟩
      have HR9 := Lib.hid (HR.out.below hb9 HR.out.lt)
      have HB9 := Lib.hid (HB.out.trans (hb9.mono HB.out.size))
      clear hb9 HR HB k0 k1
      obtain ⟨⟨y0, y1⟩, hy⟩ : ∃ y, L[j]? = some y := ⟨_, List.getElem?_eq_getElem (by rw [HL.out]; exact hlt)⟩
      obtain ⟨k0, k1⟩ := rowCellsPoint HR9.out hy
      obtain ⟨f0, f1⟩ := rowFrozenPoint HR9.out j
      clear hy
      go_wp2
      go_roundw
      case rel => exact ⟨j + 1, L.set j (t0, t1), by omega, by go_num, by rw [List.length_set]; exact HL.out, HF.out.set (by rw [HL.out]; exact hlt) HX.out, rowPoint_set HR9.out (by rw [HL.out]; exact hlt) t0 t1, (HB9.out.setCell (Nat.le_refl _) _).setCell (Nat.le_refl _) _⟩
      case measure => simp [intOf]; omega
    · obtain rfl : j = l.length := by omega
      have HF := Lib.hid hf; clear hf
      have HR := Lib.hid hr; clear hr
      go_wp2
      go_ret
      have e : L = l := FillE.done (f := fun i => l[i]?) (by rw [HL.out]; exact HF.out) HL.out.symm (fun _ _ => rfl)
      have hr := HR.out
      rw [e] at hr
      exact ⟨_, _, l, Lib.hid rfl, rfl, hr.own elPoint (Nat.le_refl _), hb⟩
theorem eqPointS_yes (A A' : Option Addr) (c c' : Nat) (l l' : List (Int × Int)) (w : World) (hs : SeesE 2 encPoint w w.heap.size A l) (hs' : SeesE 2 encPoint w w.heap.size A' l') (he : l = l') (hl : l.length ≤ 1099511627776) :
    Calls Tryz.prog 68 #[.slice A l.length c, .slice A' l'.length c'] w fun e w' => e = .returned (.bool true) ∧ Below w.heap.size w w' := by
  subst he
  have HS := Lib.hid hs; clear hs
  have HS' := Lib.hid hs'; clear hs'
  go_enter Tryz.func68, Tryz.ntmps68
  go_wp2
  go_loopw [5] (fun i wr => ∃ j : Nat, j ≤ l.length ∧ i = .int .i64 j ∧ Below w.heap.size w wr) (fun i _ => l.length - (intOf i).toNat)
  case atStart => exact ⟨0, Nat.zero_le _, rfl, Below.refl _ _⟩
  case round =>
    obtain ⟨j, hj, rfl, hb⟩ := hrel
    by_cases hlt : j < l.length
    · obtain ⟨b, off, ⟨t0, t1⟩, rfl, hbl, hx, -⟩ := (HS.out.below hb).lt hlt
      obtain ⟨b', off', hA', hbl', -⟩ := (HS'.out.below hb) j _ hx
      subst hA'
      have HS1 := Lib.hid (HS.out.below hb)
      have HS2 := Lib.hid (HS'.out.below hb)
      have HX := Lib.hid hx
      have HB := Lib.hid hb
      obtain ⟨k0, k1⟩ := cellsPoint HS1.out hx
      obtain ⟨k2, k3⟩ := cellsPoint HS2.out hx
      clear hx hb
      go_wp2
      go_region_held3 (fun w' => w'.cell? ⟨b, off + j * 2, none⟩ = some (.int .i64 t0) ∧ w'.cell? ⟨b, off + j * 2 + 1, none⟩ = some (.int .i64 t1) ∧ w'.cell? ⟨b', off' + j * 2, none⟩ = some (.int .i64 t0) ∧ w'.cell? ⟨b', off' + j * 2 + 1, none⟩ = some (.int .i64 t1)) (first | exact ⟨k0, k1, k2, k3⟩ | (exact ⟨q0, q1, q2, q3⟩)) (first
        | (go_at_call 111; refine (eqPoint_same t0 t1 _).mono ?_; rintro e w9 ⟨rfl, hb9⟩; have HB9 := Lib.hid (HB.out.drew.trans (hb9.mono HB.out.size)); obtain ⟨q0, q1⟩ := cellsPoint ((HS1.out.drew).below (hb9.mono HB.out.size)) HX.out; obtain ⟨q2, q3⟩ := cellsPoint ((HS2.out.drew).below (hb9.mono HB.out.size)) HX.out) | fail)
      all_goals
        go_wp2
        go_roundw
        case rel => exact ⟨j + 1, by omega, by go_num, HB9.out⟩
        case measure => simp [intOf]; omega
    · go_wp2
      go_ret
      exact ⟨rfl, hb⟩
/- []Segment -/
def encSegment (x : Int × Int × Int × Int) : List Value := [.int .i64 x.1, .int .i64 x.2.1, .int .i64 x.2.2.1, .int .i64 x.2.2.2]
theorem elSegment : IsEl 4 encSegment := ⟨by decide, fun x => ⟨rfl, fun u hu => by simp only [encSegment, List.mem_cons, List.not_mem_nil, or_false] at hu; rcases hu with rfl | rfl | rfl | rfl <;> rfl⟩⟩
theorem rowSegment_set {w : World} {g c : Nat} {e : TypeId} {L : List (Int × Int × Int × Int)} {j : Nat} (h : RowE 4 encSegment w g e c L) (hj : j < L.length) (t0 t1 t2 t3 : Int) : RowE 4 encSegment ((((w.setCell ⟨g, j * 4, none⟩ (.int .i64 t0)).setCell ⟨g, j * 4 + 1, none⟩ (.int .i64 t1)).setCell ⟨g, j * 4 + 2, none⟩ (.int .i64 t2)).setCell ⟨g, j * 4 + 3, none⟩ (.int .i64 t3)) g e c (L.set j (t0, t1, t2, t3)) := by
  obtain ⟨⟨y0, y1, y2, y3⟩, hx⟩ : ∃ x, L[j]? = some x := ⟨_, List.getElem?_eq_getElem hj⟩
  have h0 := h
  have h1 := h0.put elSegment (k := 0) (x' := (t0, y1, y2, y3)) (v := .int .i64 t0) hx (by decide) rfl
  have h2 := h1.put elSegment (k := 1) (x' := (t0, t1, y2, y3)) (v := .int .i64 t1) (List.getElem?_set_self (by simpa using hj)) (by decide) rfl
  have h3 := h2.put elSegment (k := 2) (x' := (t0, t1, t2, y3)) (v := .int .i64 t2) (List.getElem?_set_self (by simpa using hj)) (by decide) rfl
  have h4 := h3.put elSegment (k := 3) (x' := (t0, t1, t2, t3)) (v := .int .i64 t3) (List.getElem?_set_self (by simpa using hj)) (by decide) rfl
  simp only [List.set_set, Nat.add_zero] at h4
  exact h4
/-- The cells of one element. -/
theorem cellsSegment {w : World} {B : Nat} {b off j : Nat} {l : List (Int × Int × Int × Int)} {t0 t1 t2 t3 : Int} (h : SeesE 4 encSegment w B (some ⟨b, off, none⟩) l) (hj : l[j]? = some (t0, t1, t2, t3)) : w.cell? ⟨b, off + j * 4, none⟩ = some (.int .i64 t0) ∧ w.cell? ⟨b, off + j * 4 + 1, none⟩ = some (.int .i64 t1) ∧ w.cell? ⟨b, off + j * 4 + 2, none⟩ = some (.int .i64 t2) ∧ w.cell? ⟨b, off + j * 4 + 3, none⟩ = some (.int .i64 t3) :=
  ⟨h.cells hj (k := 0) rfl, h.cells hj (k := 1) rfl, h.cells hj (k := 2) rfl, h.cells hj (k := 3) rfl⟩
theorem rowCellsSegment {w : World} {g c j : Nat} {e : TypeId} {L : List (Int × Int × Int × Int)} {t0 t1 t2 t3 : Int} (h : RowE 4 encSegment w g e c L) (hj : L[j]? = some (t0, t1, t2, t3)) : w.cell? ⟨g, j * 4, none⟩ = some (.int .i64 t0) ∧ w.cell? ⟨g, j * 4 + 1, none⟩ = some (.int .i64 t1) ∧ w.cell? ⟨g, j * 4 + 2, none⟩ = some (.int .i64 t2) ∧ w.cell? ⟨g, j * 4 + 3, none⟩ = some (.int .i64 t3) :=
  ⟨h.cell elSegment hj (k := 0) rfl, h.cell elSegment hj (k := 1) rfl, h.cell elSegment hj (k := 2) rfl, h.cell elSegment hj (k := 3) rfl⟩
theorem rowFrozenSegment {w : World} {g c : Nat} {e : TypeId} {L : List (Int × Int × Int × Int)} (h : RowE 4 encSegment w g e c L) (j : Nat) : w.frozen? ⟨g, j * 4, none⟩ = false ∧ w.frozen? ⟨g, j * 4 + 1, none⟩ = false ∧ w.frozen? ⟨g, j * 4 + 2, none⟩ = false ∧ w.frozen? ⟨g, j * 4 + 3, none⟩ = false :=
  ⟨h.frozen _, h.frozen _, h.frozen _, h.frozen _⟩
theorem infoSegment : (Tryz.prog.info? 78).map (fun i => (i.zero, i.size, i.bytes)) = some (some (.agg #[.int .i64 0, .int .i64 0, .int .i64 0, .int .i64 0]), 4, 32) := by kernel_rfl
/-- append onto the call's own. -/
theorem appSegment (w : World) {ops : Array Oper} {rest : List Oper} {o : Oper} {a : Act} {Q : Exit → Act → World → Prop} (hgd : o.guard = none) (s x : Operand)
    (ho : o.op = .call { callee := .builtin .append, args := #[s, x], argTypes := #[38, 38] })
    (base : Nat) (v : Value) (l : List (Int × Int × Int × Int)) (hv : a.eval s = v) (hown : OwnE 4 encSegment w base 78 v l)
    (B : Nat) (A : Option Addr) (m c : Nat) (l2 : List (Int × Int × Int × Int)) (hx : a.eval x = .slice A m c) (hm : m = l2.length) (hs : SeesE 4 encSegment w B A l2) (h63 : l.length + l2.length ≤ 1099511627776) (hbase : base ≤ w.heap.size)
    (h : ∀ A' c' L w', Hid (L = l ++ l2) → L.length ≤ l.length + l2.length → l.length + l2.length ≤ L.length → OwnE 4 encSegment w' base 78 (.slice A' L.length c') L → Below base w w' → wpList Tryz.prog ops Q rest (a.put o.dst (.slice A' L.length c')) w') :
    wpList Tryz.prog ops Q (o :: rest) a w := by
  obtain ⟨i, hi, hz, h1, h2⟩ := info_parts infoSegment
  exact wpList_appE w elSegment hgd s x _ ho _ i _ 32 Tryz.underlying38 hi hz h1 h2 rfl base v l hv hown B A m c l2 hx hm hs h63 (by decide) hbase h
theorem makeSegment (w : World) {ops : Array Oper} {rest : List Oper} {o : Oper} {a : Act} {Q : Exit → Act → World → Prop}
    (hg : o.guard = none) (l c : Operand) (hop : o.op = Op.makeSlice 38 l c) (kl kc : IntKind) (m : Nat) (hl : a.eval l = .int kl (m : Int)) (hc : a.eval c = .int kc (m : Int)) (hn : m ≤ 1099511627776)
    (hK : ∀ w', RowE 4 encSegment w' w.heap.size 78 m (List.replicate m (0, 0, 0, 0)) → Below w.heap.size w w' → wpList Tryz.prog ops Q rest (a.put o.dst (.slice (some ⟨w.heap.size, 0, none⟩) m m)) w') :
    wpList Tryz.prog ops Q (o :: rest) a w := by
  obtain ⟨i, hi, hz, h1, h2⟩ := info_parts infoSegment
  exact wpList_make_rowE w elSegment hg l c _ hop _ i _ (0, 0, 0, 0) 32 Tryz.underlying38 hi hz h1 h2 (by decide) rfl kl kc m hl hc hn hK
theorem eqSegmentS_yes (A A' : Option Addr) (c c' : Nat) (l l' : List (Int × Int × Int × Int)) (w : World) (hs : SeesE 4 encSegment w w.heap.size A l) (hs' : SeesE 4 encSegment w w.heap.size A' l') (he : l = l') (hl : l.length ≤ 1099511627776) :
    Calls Tryz.prog 29 #[.slice A l.length c, .slice A' l'.length c'] w fun e w' => e = .returned (.bool true) ∧ Below w.heap.size w w' := by
  subst he
  have HS := Lib.hid hs; clear hs
  have HS' := Lib.hid hs'; clear hs'
  go_enter Tryz.func29, Tryz.ntmps29
  go_wp2
  go_loopw [5] (fun i wr => ∃ j : Nat, j ≤ l.length ∧ i = .int .i64 j ∧ Below w.heap.size w wr) (fun i _ => l.length - (intOf i).toNat)
  case atStart => exact ⟨0, Nat.zero_le _, rfl, Below.refl _ _⟩
  case round =>
    obtain ⟨j, hj, rfl, hb⟩ := hrel
    by_cases hlt : j < l.length
    · obtain ⟨b, off, ⟨t0, t1, t2, t3⟩, rfl, hbl, hx, -⟩ := (HS.out.below hb).lt hlt
      obtain ⟨b', off', hA', hbl', -⟩ := (HS'.out.below hb) j _ hx
      subst hA'
      have HS1 := Lib.hid (HS.out.below hb)
      have HS2 := Lib.hid (HS'.out.below hb)
      have HX := Lib.hid hx
      have HB := Lib.hid hb
      obtain ⟨k0, k1, k2, k3⟩ := cellsSegment HS1.out hx
      obtain ⟨k4, k5, k6, k7⟩ := cellsSegment HS2.out hx
      clear hx hb
      go_wp2
      go_region_held3 (fun w' => w'.cell? ⟨b, off + j * 4, none⟩ = some (.int .i64 t0) ∧ w'.cell? ⟨b, off + j * 4 + 1, none⟩ = some (.int .i64 t1) ∧ w'.cell? ⟨b, off + j * 4 + 2, none⟩ = some (.int .i64 t2) ∧ w'.cell? ⟨b, off + j * 4 + 3, none⟩ = some (.int .i64 t3) ∧ w'.cell? ⟨b', off' + j * 4, none⟩ = some (.int .i64 t0) ∧ w'.cell? ⟨b', off' + j * 4 + 1, none⟩ = some (.int .i64 t1) ∧ w'.cell? ⟨b', off' + j * 4 + 2, none⟩ = some (.int .i64 t2) ∧ w'.cell? ⟨b', off' + j * 4 + 3, none⟩ = some (.int .i64 t3)) (first | exact ⟨k0, k1, k2, k3, k4, k5, k6, k7⟩ | (exact ⟨q0, q1, q2, q3, q4, q5, q6, q7⟩)) (first
        | (go_at_call 67; refine (eqSegment_yes t0 t1 t2 t3 _).mono ?_; rintro e w9 ⟨rfl, hb9⟩; have HB9 := Lib.hid (HB.out.drew.trans (hb9.mono HB.out.size)); obtain ⟨q0, q1, q2, q3⟩ := cellsSegment ((HS1.out.drew).below (hb9.mono HB.out.size)) HX.out; obtain ⟨q4, q5, q6, q7⟩ := cellsSegment ((HS2.out.drew).below (hb9.mono HB.out.size)) HX.out) | fail)
      all_goals
        go_wp2
        go_roundw
        case rel => exact ⟨j + 1, by omega, by go_num, HB9.out⟩
        case measure => simp [intOf]; omega
    · go_wp2
      go_ret
      exact ⟨rfl, hb⟩
/- []Meet -/
def encMeet (x : Int × Int × Int) : List Value := [.int .i64 x.1, .int .i64 x.2.1, .int .i64 x.2.2]
theorem elMeet : IsEl 3 encMeet := ⟨by decide, fun x => ⟨rfl, fun u hu => by simp only [encMeet, List.mem_cons, List.not_mem_nil, or_false] at hu; rcases hu with rfl | rfl | rfl <;> rfl⟩⟩
theorem rowMeet_set {w : World} {g c : Nat} {e : TypeId} {L : List (Int × Int × Int)} {j : Nat} (h : RowE 3 encMeet w g e c L) (hj : j < L.length) (t0 t1 t2 : Int) : RowE 3 encMeet (((w.setCell ⟨g, j * 3, none⟩ (.int .i64 t0)).setCell ⟨g, j * 3 + 1, none⟩ (.int .i64 t1)).setCell ⟨g, j * 3 + 2, none⟩ (.int .i64 t2)) g e c (L.set j (t0, t1, t2)) := by
  obtain ⟨⟨y0, y1, y2⟩, hx⟩ : ∃ x, L[j]? = some x := ⟨_, List.getElem?_eq_getElem hj⟩
  have h0 := h
  have h1 := h0.put elMeet (k := 0) (x' := (t0, y1, y2)) (v := .int .i64 t0) hx (by decide) rfl
  have h2 := h1.put elMeet (k := 1) (x' := (t0, t1, y2)) (v := .int .i64 t1) (List.getElem?_set_self (by simpa using hj)) (by decide) rfl
  have h3 := h2.put elMeet (k := 2) (x' := (t0, t1, t2)) (v := .int .i64 t2) (List.getElem?_set_self (by simpa using hj)) (by decide) rfl
  simp only [List.set_set, Nat.add_zero] at h3
  exact h3
/-- The cells of one element. -/
theorem cellsMeet {w : World} {B : Nat} {b off j : Nat} {l : List (Int × Int × Int)} {t0 t1 t2 : Int} (h : SeesE 3 encMeet w B (some ⟨b, off, none⟩) l) (hj : l[j]? = some (t0, t1, t2)) : w.cell? ⟨b, off + j * 3, none⟩ = some (.int .i64 t0) ∧ w.cell? ⟨b, off + j * 3 + 1, none⟩ = some (.int .i64 t1) ∧ w.cell? ⟨b, off + j * 3 + 2, none⟩ = some (.int .i64 t2) :=
  ⟨h.cells hj (k := 0) rfl, h.cells hj (k := 1) rfl, h.cells hj (k := 2) rfl⟩
theorem rowCellsMeet {w : World} {g c j : Nat} {e : TypeId} {L : List (Int × Int × Int)} {t0 t1 t2 : Int} (h : RowE 3 encMeet w g e c L) (hj : L[j]? = some (t0, t1, t2)) : w.cell? ⟨g, j * 3, none⟩ = some (.int .i64 t0) ∧ w.cell? ⟨g, j * 3 + 1, none⟩ = some (.int .i64 t1) ∧ w.cell? ⟨g, j * 3 + 2, none⟩ = some (.int .i64 t2) :=
  ⟨h.cell elMeet hj (k := 0) rfl, h.cell elMeet hj (k := 1) rfl, h.cell elMeet hj (k := 2) rfl⟩
theorem rowFrozenMeet {w : World} {g c : Nat} {e : TypeId} {L : List (Int × Int × Int)} (h : RowE 3 encMeet w g e c L) (j : Nat) : w.frozen? ⟨g, j * 3, none⟩ = false ∧ w.frozen? ⟨g, j * 3 + 1, none⟩ = false ∧ w.frozen? ⟨g, j * 3 + 2, none⟩ = false :=
  ⟨h.frozen _, h.frozen _, h.frozen _⟩
theorem infoMeet : (Tryz.prog.info? 93).map (fun i => (i.zero, i.size, i.bytes)) = some (some (.agg #[.int .i64 0, .int .i64 0, .int .i64 0]), 3, 24) := by kernel_rfl
/-- append onto the call's own. -/
theorem appMeet (w : World) {ops : Array Oper} {rest : List Oper} {o : Oper} {a : Act} {Q : Exit → Act → World → Prop} (hgd : o.guard = none) (s x : Operand)
    (ho : o.op = .call { callee := .builtin .append, args := #[s, x], argTypes := #[47, 47] })
    (base : Nat) (v : Value) (l : List (Int × Int × Int)) (hv : a.eval s = v) (hown : OwnE 3 encMeet w base 93 v l)
    (B : Nat) (A : Option Addr) (m c : Nat) (l2 : List (Int × Int × Int)) (hx : a.eval x = .slice A m c) (hm : m = l2.length) (hs : SeesE 3 encMeet w B A l2) (h63 : l.length + l2.length ≤ 1099511627776) (hbase : base ≤ w.heap.size)
    (h : ∀ A' c' L w', Hid (L = l ++ l2) → L.length ≤ l.length + l2.length → l.length + l2.length ≤ L.length → OwnE 3 encMeet w' base 93 (.slice A' L.length c') L → Below base w w' → wpList Tryz.prog ops Q rest (a.put o.dst (.slice A' L.length c')) w') :
    wpList Tryz.prog ops Q (o :: rest) a w := by
  obtain ⟨i, hi, hz, h1, h2⟩ := info_parts infoMeet
  exact wpList_appE w elMeet hgd s x _ ho _ i _ 24 Tryz.underlying47 hi hz h1 h2 rfl base v l hv hown B A m c l2 hx hm hs h63 (by decide) hbase h
theorem makeMeet (w : World) {ops : Array Oper} {rest : List Oper} {o : Oper} {a : Act} {Q : Exit → Act → World → Prop}
    (hg : o.guard = none) (l c : Operand) (hop : o.op = Op.makeSlice 47 l c) (kl kc : IntKind) (m : Nat) (hl : a.eval l = .int kl (m : Int)) (hc : a.eval c = .int kc (m : Int)) (hn : m ≤ 1099511627776)
    (hK : ∀ w', RowE 3 encMeet w' w.heap.size 93 m (List.replicate m (0, 0, 0)) → Below w.heap.size w w' → wpList Tryz.prog ops Q rest (a.put o.dst (.slice (some ⟨w.heap.size, 0, none⟩) m m)) w') :
    wpList Tryz.prog ops Q (o :: rest) a w := by
  obtain ⟨i, hi, hz, h1, h2⟩ := info_parts infoMeet
  exact wpList_make_rowE w elMeet hg l c _ hop _ i _ (0, 0, 0) 24 Tryz.underlying47 hi hz h1 h2 (by decide) rfl kl kc m hl hc hn hK
theorem eqMeetS_yes (A A' : Option Addr) (c c' : Nat) (l l' : List (Int × Int × Int)) (w : World) (hs : SeesE 3 encMeet w w.heap.size A l) (hs' : SeesE 3 encMeet w w.heap.size A' l') (he : l = l') (hl : l.length ≤ 1099511627776) :
    Calls Tryz.prog 37 #[.slice A l.length c, .slice A' l'.length c'] w fun e w' => e = .returned (.bool true) ∧ Below w.heap.size w w' := by
  subst he
  have HS := Lib.hid hs; clear hs
  have HS' := Lib.hid hs'; clear hs'
  go_enter Tryz.func37, Tryz.ntmps37
  go_wp2
  go_loopw [5] (fun i wr => ∃ j : Nat, j ≤ l.length ∧ i = .int .i64 j ∧ Below w.heap.size w wr) (fun i _ => l.length - (intOf i).toNat)
  case atStart => exact ⟨0, Nat.zero_le _, rfl, Below.refl _ _⟩
  case round =>
    obtain ⟨j, hj, rfl, hb⟩ := hrel
    by_cases hlt : j < l.length
    · obtain ⟨b, off, ⟨t0, t1, t2⟩, rfl, hbl, hx, -⟩ := (HS.out.below hb).lt hlt
      obtain ⟨b', off', hA', hbl', -⟩ := (HS'.out.below hb) j _ hx
      subst hA'
      have HS1 := Lib.hid (HS.out.below hb)
      have HS2 := Lib.hid (HS'.out.below hb)
      have HX := Lib.hid hx
      have HB := Lib.hid hb
      obtain ⟨k0, k1, k2⟩ := cellsMeet HS1.out hx
      obtain ⟨k3, k4, k5⟩ := cellsMeet HS2.out hx
      clear hx hb
      go_wp2
      go_region_held3 (fun w' => w'.cell? ⟨b, off + j * 3, none⟩ = some (.int .i64 t0) ∧ w'.cell? ⟨b, off + j * 3 + 1, none⟩ = some (.int .i64 t1) ∧ w'.cell? ⟨b, off + j * 3 + 2, none⟩ = some (.int .i64 t2) ∧ w'.cell? ⟨b', off' + j * 3, none⟩ = some (.int .i64 t0) ∧ w'.cell? ⟨b', off' + j * 3 + 1, none⟩ = some (.int .i64 t1) ∧ w'.cell? ⟨b', off' + j * 3 + 2, none⟩ = some (.int .i64 t2)) (first | exact ⟨k0, k1, k2, k3, k4, k5⟩ | (exact ⟨q0, q1, q2, q3, q4, q5⟩)) (first
        | (go_at_call 72; refine (eqMeet_yes t0 t1 t2 _).mono ?_; rintro e w9 ⟨rfl, hb9⟩; have HB9 := Lib.hid (HB.out.drew.trans (hb9.mono HB.out.size)); obtain ⟨q0, q1, q2⟩ := cellsMeet ((HS1.out.drew).below (hb9.mono HB.out.size)) HX.out; obtain ⟨q3, q4, q5⟩ := cellsMeet ((HS2.out.drew).below (hb9.mono HB.out.size)) HX.out) | fail)
      all_goals
        go_wp2
        go_roundw
        case rel => exact ⟨j + 1, by omega, by go_num, HB9.out⟩
        case measure => simp [intOf]; omega
    · go_wp2
      go_ret
      exact ⟨rfl, hb⟩
end Go.Proofs.YtbnjaaegbmhopaaGreatDoor
