/- Features in memory: a slice of features that the call owns, with the rows of their points. -/
import Derived.Test.YtbnjaaegbmhopaaGreatDoorFeatM
import Derived.Test.YtbnjaaegbmhopaaGreatDoorPoint2
namespace Go.Proofs.YtbnjaaegbmhopaaGreatDoor
open Go.ChangeShapes Go.WideShapes Go.ChangeAt Go.RowKit
set_option linter.unusedVariables false

/-- The slice of a feature's points. -/
def slF (x : FCel) : Value := .slice x.2.2.2.2.1 x.2.2.2.2.2.1 x.2.2.2.2.2.2
def Shal (x : FCel) (f : Feat) : Prop := x.1 = f.1 ∧ x.2.1 = f.2.1 ∧ x.2.2.1 = f.2.2.1 ∧ x.2.2.2.1 = f.2.2.2.1
/-- No two rows of points in one block. -/
def ApartF (xs : List FCel) : Prop := ∀ (i j : Nat) x y b, i ≠ j → xs[i]? = some x → xs[j]? = some y → (slF x).ownBlock = some b → (slF y).ownBlock ≠ some b
/-- The rows of points of features that lie in v. -/
def RowsF (w : World) (B : Nat) (v : Value) (xs : List FCel) (l : List Feat) : Prop :=
  xs.length = l.length ∧ ApartF xs ∧ ∀ (j : Nat) x f, xs[j]? = some x → l[j]? = some f → Shal x f ∧ OwnE 2 encPoint w B 33 (slF x) f.2.2.2.2 ∧ ∀ b, (slF x).ownBlock = some b → v.ownBlock ≠ some b
/-- The call owns a slice of features, from block B on. -/
def OwnF (w : World) (B : Nat) (v : Value) (l : List Feat) : Prop := ∃ xs, OwnE 5 encF w B 41 v xs ∧ RowsF w B v xs l
section
variable {w w' w0 : World} {B C : Nat} {v v' : Value} {A : Option Addr} {m c : Nat} {xs ys : List FCel} {l l2 : List Feat} {x : FCel} {f : Feat}
theorem RowsF.len (h : RowsF w B v xs l) : xs.length = l.length := h.1
theorem OwnF.form (h : OwnF w B v l) : ∃ A c, v = .slice A l.length c ∧ c ≤ maxLen ∧ l.length ≤ c := by
  obtain ⟨xs, h1, h2⟩ := h
  obtain ⟨A, c, hv, hc, hl⟩ := h1.form
  rw [h2.1] at hv hl
  exact ⟨A, c, hv, hc, hl⟩
theorem OwnF.lt (h : OwnF w B v l) : ∀ g, v.ownBlock = some g → B ≤ g ∧ g < w.heap.size := by
  obtain ⟨xs, h1, _⟩ := h; exact h1.lt
theorem own_caps {α : Type} {n : Nat} {enc : α → List Value} {e : TypeId} {L : List α} (h : OwnE n enc w B e (.slice A m c) L) : m = L.length ∧ L.length ≤ c ∧ (c : Int) ≤ 9223372036854775807 := by
  obtain ⟨A', c', hv, hc, hl⟩ := h.form
  simp only [Value.slice.injEq] at hv
  unfold maxLen at hc
  omega
theorem own_capsF (h : OwnF w B (.slice A m c) l) : l.length ≤ c ∧ (c : Int) ≤ 9223372036854775807 := by
  obtain ⟨xs, h1, h2⟩ := h
  have := own_caps h1
  rw [← h2.1]
  exact this.2
theorem OwnF.sees (h : OwnF w B (.slice A m c) l) : SeesF w w.heap.size A l := by
  obtain ⟨xs, h1, h2, h3, h4⟩ := h
  refine ⟨xs, h2, h1.sees elF, fun j x f hx hf => ?_⟩
  obtain ⟨⟨e1, e2, e3, e4⟩, ho, _⟩ := h4 j x f hx hf
  have hc := own_caps ho
  exact ⟨e1, e2, e3, e4, hc.1, ho.sees elPoint, hc.2⟩
theorem RowsF.belowAll (h : RowsF w B v xs l) (hb : Below w.heap.size w w') : RowsF w' B v xs l :=
  ⟨h.1, h.2.1, fun j x f hx hf => by obtain ⟨h1, h2, h3⟩ := h.2.2 j x f hx hf; exact ⟨h1, h2.belowAll hb, h3⟩⟩
theorem OwnF.belowAll (h : OwnF w B v l) (hb : Below w.heap.size w w') : OwnF w' B v l := by
  obtain ⟨xs, h1, h2⟩ := h
  exact ⟨xs, h1.belowAll hb, h2.belowAll hb⟩
theorem OwnF.alloc (h : OwnF w B v l) (o : Obj) : OwnF (w.alloc o) B v l := h.belowAll ((Below.refl _ _).alloc (Nat.le_refl _) o)
theorem OwnF.drew (h : OwnF w B v l) : OwnF w.drew B v l := h.belowAll (Below.refl _ _).drew
theorem RowsF.mono (h : RowsF w B v xs l) (hC : C ≤ B) : RowsF w C v xs l :=
  ⟨h.1, h.2.1, fun j x f hx hf => by obtain ⟨h1, h2, h3⟩ := h.2.2 j x f hx hf; exact ⟨h1, h2.mono hC, h3⟩⟩
theorem OwnF.mono (h : OwnF w B v l) (hC : C ≤ B) : OwnF w C v l := by
  obtain ⟨xs, h1, h2⟩ := h
  exact ⟨xs, h1.mono hC, h2.mono hC⟩
theorem OwnF.lit (w : World) (B : Nat) (hB : B ≤ w.heap.size) : OwnF (w.alloc (.cells #[] 41)) B (.slice (some ⟨w.heap.size, 0, none⟩) 0 0) [] :=
  ⟨[], OwnE.lit w B _ hB, rfl, fun i j x y b _ hx => by simp at hx, fun j x f hx => by simp at hx⟩
/-- The rows behind the row of the slice: it grows, and they stay. -/
theorem RowsF.grown (h : RowsF w B v xs l) (hg : w.grownBy w' v.ownBlock) (hv : v'.ownBlock = v.ownBlock ∨ v'.ownBlock = some w.heap.size) : RowsF w' B v' xs l := by
  refine ⟨h.1, h.2.1, fun j x f hx hf => ?_⟩
  obtain ⟨h1, h2, h3⟩ := h.2.2 j x f hx hf
  refine ⟨h1, h2.kept hg ?_, fun b hb he => ?_⟩
  · match hs : (slF x).ownBlock with
    | none => exact .inl rfl
    | some b => exact .inr fun e => h3 b hs e.symm
  · rcases hv with hv | hv
    · rw [hv] at he; exact h3 b hb he
    · rw [hv] at he
      have := (h2.lt b hb).2
      simp only [Option.some.injEq] at he
      omega
/-- Two lists of features side by side: the second one's rows lie behind the first one's. -/
theorem RowsF.app (h : RowsF w B v xs l) (h2 : RowsF w B v ys l2) (hs : ∀ (i j : Nat) x y b, xs[i]? = some x → ys[j]? = some y → (slF x).ownBlock = some b → (slF y).ownBlock ≠ some b) : RowsF w B v (xs ++ ys) (l ++ l2) := by
  refine ⟨by rw [List.length_append, List.length_append, h.1, h2.1], fun i j x y b hij hx hy hb => ?_, fun j x f hx hf => ?_⟩
  · rw [List.getElem?_append] at hx hy
    split at hx
    · split at hy
      · exact h.2.1 i j x y b hij hx hy hb
      · exact hs _ _ x y b hx hy hb
    · split at hy
      · intro e
        exact hs _ _ y x b hy hx e hb
      · exact h2.2.1 _ _ x y b (by omega) hx hy hb
  · rw [List.getElem?_append] at hx hf
    rw [h.1] at hx
    split at hx
    · next hlt => rw [if_pos hlt] at hf; exact h.2.2 _ _ _ hx hf
    · next hlt => rw [if_neg hlt] at hf; exact h2.2.2 _ _ _ hx hf
/-- One feature whose points lie in new memory. -/
theorem rows_one {f : Feat} (ho : OwnE 2 encPoint w B 33 (slF x) f.2.2.2.2) (hb : ∀ b, (slF x).ownBlock = some b → C ≤ b) (hv : ∀ g, v.ownBlock = some g → g < C) (hs : Shal x f) : RowsF w B v [x] [f] := by
  refine ⟨rfl, fun i j x y b hij hx hy => ?_, fun j x' f' hx hf => ?_⟩
  · have h1 := (List.getElem?_eq_some_iff.1 hx).1
    have h2 := (List.getElem?_eq_some_iff.1 hy).1
    simp at h1 h2
    omega
  · match j, hx, hf with
    | 0, hx, hf =>
      simp at hx hf
      subst hx hf
      refine ⟨hs, ho, fun b h1 h2 => ?_⟩
      have := hb b h1
      have := hv b h2
      omega
    | j + 1, hx, hf => simp at hx
/-- What was ahead of C, and what lies behind it. -/
theorem rows_sep (h : RowsF w0 B v xs l) (hC : w0.heap.size ≤ C) (hy : ∀ (j : Nat) y b, ys[j]? = some y → (slF y).ownBlock = some b → C ≤ b) :
    ∀ (i j : Nat) x y b, xs[i]? = some x → ys[j]? = some y → (slF x).ownBlock = some b → (slF y).ownBlock ≠ some b := fun i j x y b hx hy' hb he => by
  obtain ⟨f, hf⟩ : ∃ f, l[i]? = some f := ⟨_, List.getElem?_eq_getElem (by rw [← h.1]; exact (List.getElem?_eq_some_iff.1 hx).1)⟩
  obtain ⟨_, h2, _⟩ := h.2.2 i x f hx hf
  have := (h2.lt b hb).2
  have := hy j y b hy' he
  omega
theorem infoFeature : (Tryz.prog.info? 41).map (fun i => (i.zero, i.size, i.bytes)) = some (some (.agg #[.int .i64 0, .int .i64 0, .int .i64 0, .string ⟨#[]⟩, .slice none 0 0]), 5, 64) := by kernel_rfl
/-- append onto the call's own features. -/
theorem run_appF (w : World) (ty : TypeId) (hown : OwnE 5 encF w B 41 v xs) (hr : RowsF w B v xs l) (C : Nat) (A : Option Addr) (m c : Nat) (hm : m = ys.length) (hs : SeesE 5 encF w C A ys) (hr2 : RowsF w B v ys l2)
    (hsep : ∀ (i j : Nat) x y b, xs[i]? = some x → ys[j]? = some y → (slF x).ownBlock = some b → (slF y).ownBlock ≠ some b) (h63 : l.length + l2.length ≤ 1099511627776) (hbase : B ≤ w.heap.size) :
    ∃ v' w', (Builtin.append_ #[45, 45] ty #[v, .slice A m c]).run Tryz.prog w = .ok v' w' ∧ OwnF w' B v' (l ++ l2) ∧ Below B w w' := by
  obtain ⟨i, hi, hz, h1, h2⟩ := info_parts infoFeature
  obtain ⟨v', w', hrun, q1, q2, q3⟩ := run_appE (P := Tryz.prog) w elF 45 ty 41 i _ 64 Tryz.underlying45 hi hz h1 h2 rfl B v xs hown C A m c ys hm hs (by rw [hr.1, hr2.1]; exact h63) (by decide) hbase
  exact ⟨v', w', hrun, ⟨xs ++ ys, q1, (hr.app hr2 hsep).grown q2 q3⟩, (Below.refl _ _).grown q2 hbase fun g hg => (hown.lt g hg).1⟩
theorem wpList_appF {ops : Array Oper} {rest : List Oper} {o : Oper} {a : Act} {Q : Exit → Act → World → Prop} (w : World) (hgd : o.guard = none) (s x : Operand)
    (ho : o.op = .call { callee := .builtin .append, args := #[s, x], argTypes := #[45, 45] })
    (hv : a.eval s = v) (hown : OwnE 5 encF w B 41 v xs) (hr : RowsF w B v xs l) (C : Nat) (A : Option Addr) (m c : Nat) (hx : a.eval x = .slice A m c) (hm : m = ys.length) (hs : SeesE 5 encF w C A ys) (hr2 : RowsF w B v ys l2)
    (hsep : ∀ (i j : Nat) x y b, xs[i]? = some x → ys[j]? = some y → (slF x).ownBlock = some b → (slF y).ownBlock ≠ some b) (h63 : l.length + l2.length ≤ 1099511627776) (hbase : B ≤ w.heap.size)
    (h : ∀ A' c' L w', Hid (L = l ++ l2) → L.length ≤ l.length + l2.length → l.length + l2.length ≤ L.length → OwnF w' B (.slice A' L.length c') L → Below B w w' → wpList Tryz.prog ops Q rest (a.put o.dst (.slice A' L.length c')) w') :
    wpList Tryz.prog ops Q (o :: rest) a w := by
  refine wpList_plain hgd fun K hK => ?_
  obtain ⟨v', w', hrun, h2, h3⟩ := run_appF w o.type hown hr C A m c hm hs hr2 hsep h63 hbase
  unfold Oper.wp execOp
  simp only [ho, resolve, invoke, builtin, Sem.run_bind, Sem.run_pure, Result.andThen_ok, List.map_toArray, List.map_cons, List.map_nil, hv, hx, hrun]
  obtain ⟨A', c', rfl, _, _⟩ := h2.form
  exact hK _ _ (h A' c' _ w' (Lib.hid rfl) (by simp) (by simp) h2 h3)
/-- One feature, made anew behind world w0, is appended. -/
theorem wpList_appF1 {ops : Array Oper} {rest : List Oper} {o : Oper} {act : Act} {Q : Exit → Act → World → Prop} (w1 : World) (hgd : o.guard = none) (s x : Operand)
    (ho : o.op = .call { callee := .builtin .append, args := #[s, x], argTypes := #[45, 45] })
    (hv : act.eval s = v) (hF : OwnF w0 B v l) (hb : Below w0.heap.size w0 w1) {a k r : Int} {nm : ByteArray} {A1 : Option Addr} {c1 : Nat} {L : List (Int × Int)} (hP : OwnE 2 encPoint w1 w0.heap.size 33 (.slice A1 L.length c1) L)
    (hx : act.eval x = .slice (some ⟨w1.heap.size, 0, none⟩) 1 1) (h63 : l.length + 1 ≤ 1099511627776) (hbase : B ≤ w0.heap.size)
    (h : ∀ A' c' L' w', Hid (L' = l ++ [(a, k, r, nm, L)]) → L'.length ≤ l.length + 1 → l.length + 1 ≤ L'.length → OwnF w' B (.slice A' L'.length c') L' → Below B (w1.alloc (.cells (FtC a k r nm A1 L.length c1) 41)) w' → wpList Tryz.prog ops Q rest (act.put o.dst (.slice A' L'.length c')) w') :
    wpList Tryz.prog ops Q (o :: rest) act (w1.alloc (.cells (FtC a k r nm A1 L.length c1) 41)) := by
  have hF1 := (hF.belowAll hb).alloc (.cells (FtC a k r nm A1 L.length c1) 41)
  have hF0 := hF
  obtain ⟨xs, h1, h2⟩ := hF
  have h1' := (h1.belowAll hb).alloc (.cells (FtC a k r nm A1 L.length c1) 41)
  have h2' := (h2.belowAll hb).belowAll ((Below.refl _ _).alloc (Nat.le_refl _) (.cells (FtC a k r nm A1 L.length c1) 41))
  have hsz := hb.size
  refine wpList_appF (l := l) (l2 := [(a, k, r, nm, L)]) (xs := xs) (ys := [(a, k, r, nm, A1, L.length, c1)]) _ hgd s x ho hv h1' h2' (w1.heap.size + 1) _ 1 1 hx rfl
    (seesE_new elF w1 _ _ _ _ (Nat.lt_succ_self _) rfl)
    (rows_one (C := w0.heap.size) ((hP.mono hbase).alloc _) (fun b hb' => (hP.lt b hb').1) (fun g hg => (hF0.lt g hg).2) ⟨rfl, rfl, rfl, rfl⟩)
    (rows_sep h2 (Nat.le_refl _) (fun j y b hy hb' => ?_)) h63 (by simp; omega) h
  match j, hy with
  | 0, hy => simp at hy; subst hy; exact (hP.lt b hb').1
/-- Rows behind C are none of what lies ahead of it. -/
theorem RowsF.turn {u : Value} {l2 : List Feat} (h : RowsF w C u ys l2) (hv : ∀ g, v.ownBlock = some g → g < C) : RowsF w C v ys l2 :=
  ⟨h.1, h.2.1, fun j x f hx hf => by
    obtain ⟨h1, h2, _⟩ := h.2.2 j x f hx hf
    refine ⟨h1, h2, fun b hb he => ?_⟩
    have := (h2.lt b hb).1
    have := hv b he
    omega⟩
theorem step_appF {o : Oper} {act : Act} {K : Act → World → Prop} {Q : Exit → Act → World → Prop} {l2 : List Feat} (w : World) (s x : Operand)
    (ho : o.op = .call { callee := .builtin .append, args := #[s, x], argTypes := #[45, 45] })
    (hv : act.eval s = v) (hown : OwnE 5 encF w B 41 v xs) (hr : RowsF w B v xs l) (C : Nat) (A : Option Addr) (m c : Nat) (hx : act.eval x = .slice A m c) (hm : m = ys.length) (hs : SeesE 5 encF w C A ys) (hr2 : RowsF w B v ys l2)
    (hsep : ∀ (i j : Nat) x y b, xs[i]? = some x → ys[j]? = some y → (slF x).ownBlock = some b → (slF y).ownBlock ≠ some b) (h63 : l.length + l2.length ≤ 1099511627776) (hbase : B ≤ w.heap.size)
    (h : ∀ A' c' L w', Hid (L = l ++ l2) → L.length ≤ l.length + l2.length → l.length + l2.length ≤ L.length → OwnF w' B (.slice A' L.length c') L → Below B w w' → K (act.put o.dst (.slice A' L.length c')) w') :
    o.wp Tryz.prog act w K Q := by
  obtain ⟨v', w', hrun, h2, h3⟩ := run_appF w o.type hown hr C A m c hm hs hr2 hsep h63 hbase
  unfold Oper.wp execOp
  simp only [ho, resolve, invoke, builtin, Sem.run_bind, Sem.run_pure, Result.andThen_ok, List.map_toArray, List.map_cons, List.map_nil, hv, hx, hrun]
  obtain ⟨A', c', rfl, _, _⟩ := h2.form
  exact h A' c' _ w' (Lib.hid rfl) (by simp) (by simp) h2 h3
/-- One feature, made anew behind world w0, is appended: a step. -/
theorem stepF1 {o : Oper} {act : Act} {K : Act → World → Prop} {Q : Exit → Act → World → Prop} (w1 : World) (s x : Operand)
    (ho : o.op = .call { callee := .builtin .append, args := #[s, x], argTypes := #[45, 45] })
    (hv : act.eval s = v) (hF : OwnF w0 B v l) (hb : Below w0.heap.size w0 w1) {a k r : Int} {nm : ByteArray} {A1 : Option Addr} {c1 : Nat} {L : List (Int × Int)} (hP : OwnE 2 encPoint w1 w0.heap.size 33 (.slice A1 L.length c1) L)
    (hx : act.eval x = .slice (some ⟨w1.heap.size, 0, none⟩) 1 1) (h63 : l.length + 1 ≤ 1099511627776) (hbase : B ≤ w0.heap.size)
    (h : ∀ A' c' L' w', Hid (L' = l ++ [(a, k, r, nm, L)]) → L'.length ≤ l.length + 1 → l.length + 1 ≤ L'.length → OwnF w' B (.slice A' L'.length c') L' → Below B (w1.alloc (.cells (FtC a k r nm A1 L.length c1) 41)) w' → K (act.put o.dst (.slice A' L'.length c')) w') :
    o.wp Tryz.prog act (w1.alloc (.cells (FtC a k r nm A1 L.length c1) 41)) K Q := by
  have hF0 := hF
  obtain ⟨xs, h1, h2⟩ := hF
  have h1' := (h1.belowAll hb).alloc (.cells (FtC a k r nm A1 L.length c1) 41)
  have h2' := (h2.belowAll hb).belowAll ((Below.refl _ _).alloc (Nat.le_refl _) (.cells (FtC a k r nm A1 L.length c1) 41))
  have hsz := hb.size
  refine step_appF (l := l) (l2 := [(a, k, r, nm, L)]) (xs := xs) (ys := [(a, k, r, nm, A1, L.length, c1)]) _ s x ho hv h1' h2' (w1.heap.size + 1) _ 1 1 hx rfl
    (seesE_new elF w1 _ _ _ _ (Nat.lt_succ_self _) rfl)
    (rows_one (C := w0.heap.size) ((hP.mono hbase).alloc _) (fun b hb' => (hP.lt b hb').1) (fun g hg => (hF0.lt g hg).2) ⟨rfl, rfl, rfl, rfl⟩)
    (rows_sep h2 (Nat.le_refl _) (fun j y b hy hb' => ?_)) h63 (by simp; omega) h
  match j, hy with
  | 0, hy => simp at hy; subst hy; exact (hP.lt b hb').1
/-- Features that were made anew behind world w0 are appended: a step. -/
theorem stepF2 {o : Oper} {act : Act} {K : Act → World → Prop} {Q : Exit → Act → World → Prop} {l2 : List Feat} (w1 : World) (s x : Operand)
    (ho : o.op = .call { callee := .builtin .append, args := #[s, x], argTypes := #[45, 45] })
    (hv : act.eval s = v) (hF : OwnF w0 B v l) (hb : Below w0.heap.size w0 w1) (A : Option Addr) (m c : Nat) (hG : OwnF w1 w0.heap.size (.slice A m c) l2)
    (hx : act.eval x = .slice A m c) (h63 : l.length + l2.length ≤ 1099511627776) (hbase : B ≤ w0.heap.size)
    (h : ∀ A' c' L' w', Hid (L' = l ++ l2) → L'.length ≤ l.length + l2.length → l.length + l2.length ≤ L'.length → OwnF w' B (.slice A' L'.length c') L' → Below B w1 w' → K (act.put o.dst (.slice A' L'.length c')) w') :
    o.wp Tryz.prog act w1 K Q := by
  have hF0 := hF
  obtain ⟨xs, h1, h2⟩ := hF
  obtain ⟨ys, g1, g2⟩ := hG
  have hsz := hb.size
  have hm := (own_caps g1).1
  refine step_appF (l := l) (l2 := l2) (xs := xs) (ys := ys) w1 s x ho hv (h1.belowAll hb) (h2.belowAll hb) w1.heap.size A m c hx hm (g1.sees elF) ((g2.turn fun g hg => (hF0.lt g hg).2).mono hbase)
    (rows_sep h2 (Nat.le_refl _) (fun j y b hy hb' => ?_)) h63 (by omega) h
  obtain ⟨f, hf⟩ : ∃ f, l2[j]? = some f := ⟨_, List.getElem?_eq_getElem (by rw [← g2.1]; exact (List.getElem?_eq_some_iff.1 hy).1)⟩
  exact ((g2.2.2 j y f hy hf).2.1.lt b hb').1
end
end Go.Proofs.YtbnjaaegbmhopaaGreatDoor
