/- Slices of structs that hold no memory, as lists: what a slice shows, what a call owns, what append and make give. For any element: n cells, laid by enc. -/
import Derived.Test.YtbnjaaegbmhopaaGreatDoorMem
namespace Go.Proofs.YtbnjaaegbmhopaaGreatDoor
open Go.RowKit
set_option linter.unusedVariables false

/-- An element: n cells, each of one cell. -/
def IsEl {α : Type} (n : Nat) (enc : α → List Value) : Prop := 0 < n ∧ ∀ x, (enc x).length = n ∧ ∀ u ∈ enc x, u.oneCell' = true
def cellsE {α : Type} (enc : α → List Value) : List α → List Value
  | [] => []
  | x :: r => enc x ++ cellsE enc r
section
variable {α : Type} {n : Nat} {enc : α → List Value}
theorem cellsE_len (hE : IsEl n enc) (l : List α) : (cellsE enc l).length = l.length * n := by
  induction l with
  | nil => simp [cellsE]
  | cons x r ih => simp only [cellsE, List.length_append, ih, (hE.2 x).1, List.length_cons, Nat.add_mul]; omega
theorem cellsE_app (l m : List α) : cellsE enc (l ++ m) = cellsE enc l ++ cellsE enc m := by
  induction l with
  | nil => rfl
  | cons x r ih => simp [cellsE, ih]
theorem cellsE_one (hE : IsEl n enc) (l : List α) : ∀ u ∈ cellsE enc l, u.oneCell' = true := by
  induction l with
  | nil => intro u h; cases h
  | cons x r ih =>
    intro u h
    simp only [cellsE, List.mem_append] at h
    exact h.elim ((hE.2 x).2 u) (ih u)
theorem cellsE_at (hE : IsEl n enc) {l : List α} {j k : Nat} {x : α} {v : Value} (h : l[j]? = some x) (hv : (enc x)[k]? = some v) : (cellsE enc l)[j * n + k]? = some v := by
  induction l generalizing j with
  | nil => simp at h
  | cons y r ih =>
    have hk : k < n := by have := (List.getElem?_eq_some_iff.1 hv).1; rw [(hE.2 x).1] at this; exact this
    match j, h with
    | 0, h =>
      simp only [List.getElem?_cons_zero, Option.some.injEq] at h
      subst h
      rw [cellsE, Nat.zero_mul, Nat.zero_add, List.getElem?_append_left (by rw [(hE.2 y).1]; exact hk)]
      exact hv
    | j + 1, h =>
      rw [cellsE, List.getElem?_append_right (by rw [(hE.2 y).1, Nat.add_mul]; omega), (hE.2 y).1, show (j + 1) * n + k - n = j * n + k by rw [Nat.add_mul]; omega]
      exact ih (by simpa using h)
theorem cellsE_get (hE : IsEl n enc) {l : List α} {i : Nat} {v : Value} (h : (cellsE enc l)[i]? = some v) : ∃ (j k : Nat) (x : α), l[j]? = some x ∧ (enc x)[k]? = some v ∧ i = j * n + k := by
  induction l generalizing i with
  | nil => simp [cellsE] at h
  | cons y r ih =>
    rw [cellsE] at h
    by_cases hi : i < n
    · rw [List.getElem?_append_left (by rw [(hE.2 y).1]; exact hi)] at h
      exact ⟨0, i, y, rfl, h, by omega⟩
    · rw [List.getElem?_append_right (by rw [(hE.2 y).1]; omega), (hE.2 y).1] at h
      obtain ⟨j, k, x, h1, h2, h3⟩ := ih h
      exact ⟨j + 1, k, x, by simpa using h1, h2, by rw [Nat.add_mul]; omega⟩
theorem cellsE_set (hE : IsEl n enc) {l : List α} {j k : Nat} {x x' : α} {v : Value} (h : l[j]? = some x) (hk : k < n) (he : enc x' = (enc x).set k v) : cellsE enc (l.set j x') = (cellsE enc l).set (j * n + k) v := by
  induction l generalizing j with
  | nil => simp at h
  | cons y r ih =>
    match j, h with
    | 0, h =>
      simp only [List.getElem?_cons_zero, Option.some.injEq] at h
      subst h
      rw [List.set_cons_zero, cellsE, cellsE, he, Nat.zero_mul, Nat.zero_add, List.set_append_left _ _ (by rw [(hE.2 y).1]; exact hk)]
    | j + 1, h =>
      rw [List.set_cons_succ, cellsE, cellsE, ih (by simpa using h), List.set_append_right _ _ (by rw [(hE.2 y).1, Nat.add_mul]; omega), (hE.2 y).1, show (j + 1) * n + k - n = j * n + k by rw [Nat.add_mul]; omega]
end
/-- What a slice value shows: a list of elements, below block B. -/
def SeesE {α : Type} (n : Nat) (enc : α → List Value) (w : World) (B : Nat) (A : Option Addr) (l : List α) : Prop :=
  ∀ j x, l[j]? = some x → ∃ b off, A = some ⟨b, off, none⟩ ∧ b < B ∧ ∀ k v, (enc x)[k]? = some v → w.cell? ⟨b, off + j * n + k, none⟩ = some v
section
variable {α : Type} {n : Nat} {enc : α → List Value} {w w' : World} {B B' : Nat} {A : Option Addr} {l : List α}
theorem SeesE.nil : SeesE n enc w B A ([] : List α) := fun j x h => by simp at h
theorem SeesE.lt (h : SeesE n enc w B A l) {j : Nat} (hj : j < l.length) : ∃ b off x, A = some ⟨b, off, none⟩ ∧ b < B ∧ l[j]? = some x ∧ ∀ k v, (enc x)[k]? = some v → w.cell? ⟨b, off + j * n + k, none⟩ = some v := by
  obtain ⟨b, off, e, hb, hc⟩ := h j l[j] (List.getElem?_eq_getElem hj)
  exact ⟨b, off, _, e, hb, List.getElem?_eq_getElem hj, hc⟩
theorem SeesE.below (h : SeesE n enc w B A l) (hb : Below B w w') : SeesE n enc w' B A l := fun j x hj => by
  obtain ⟨b, off, e, hlt, hc⟩ := h j x hj
  exact ⟨b, off, e, hlt, fun k v hv => (hb.cell (p := ⟨b, off + j * n + k, none⟩) hlt).trans (hc k v hv)⟩
theorem SeesE.mono (h : SeesE n enc w B A l) (hB : B ≤ B') : SeesE n enc w B' A l := fun j x hj => by
  obtain ⟨b, off, e, hlt, hc⟩ := h j x hj
  exact ⟨b, off, e, by omega, hc⟩
theorem SeesE.belowAll (h : SeesE n enc w w.heap.size A l) (hb : Below w.heap.size w w') : SeesE n enc w' w'.heap.size A l := (h.below hb).mono hb.size
theorem SeesE.alloc (h : SeesE n enc w B A l) (hB : B ≤ w.heap.size) (o : Obj) : SeesE n enc (w.alloc o) B A l := h.below ((Below.refl _ _).alloc hB o)
theorem SeesE.drew (h : SeesE n enc w B A l) : SeesE n enc w.drew B A l := h.below (Below.refl _ _).drew
/-- Where the slice lies, if it holds anything. -/
theorem SeesE.base (h : SeesE n enc w B A l) (hl : 0 < l.length) : ∃ b off, A = some ⟨b, off, none⟩ ∧ b < B := by
  obtain ⟨b, off, _, e, hb, _⟩ := h.lt hl
  exact ⟨b, off, e, hb⟩
theorem SeesE.cells {b off : Nat} (h : SeesE n enc w B (some ⟨b, off, none⟩) l) {j : Nat} {x : α} (hx : l[j]? = some x) {k : Nat} {v : Value} (hv : (enc x)[k]? = some v) : w.cell? ⟨b, off + j * n + k, none⟩ = some v := by
  obtain ⟨b', off', e, _, hc⟩ := h j x hx
  simp only [Option.some.injEq, Addr.mk.injEq, and_true] at e
  obtain ⟨rfl, rfl⟩ := e
  exact hc k v hv
/-- A cut. -/
theorem SeesE.cut (h : SeesE n enc w B A l) (lo m : Nat) (A' : Option Addr) (hA : lo < l.length → A' = A.map (·.add (lo * n))) : SeesE n enc w B A' ((l.drop lo).take m) := fun j x hj => by
  have hx : l[lo + j]? = some x := by
    rw [List.getElem?_take] at hj
    split at hj
    · rwa [List.getElem?_drop] at hj
    · cases hj
  obtain ⟨b, off, rfl, hlt, hc⟩ := h (lo + j) x hx
  have hl : lo + j < l.length := (List.getElem?_eq_some_iff.1 hx).1
  exact ⟨b, off + lo * n, by rw [hA (by omega)]; simp [add_none], hlt, fun k v hv => by have := hc k v hv; rwa [Nat.add_mul, show off + (lo * n + j * n) + k = off + lo * n + j * n + k by omega] at this⟩
theorem seesE_new (hE : IsEl n enc) (w : World) (x : α) (cs : Array Value) (T : TypeId) (B : Nat) (hB : w.heap.size < B) (hcs : cs.toList = enc x) : SeesE n enc (w.alloc (.cells cs T)) B (some ⟨w.heap.size, 0, none⟩) [x] := fun j y hj => by
  match j, hj with
  | 0, hj =>
    simp at hj; subst hj
    refine ⟨_, _, rfl, hB, fun k v hv => ?_⟩
    simp only [Nat.zero_mul, Nat.zero_add]
    rw [cell_of_row _ _ _ cs T (0, 0) (heap_alloc_new w _), ← Array.getElem?_toList, hcs]
    exact hv
end
/-- A row of elements that the call owns, from block B on. -/
def OwnE {α : Type} (n : Nat) (enc : α → List Value) (w : World) (B : Nat) (e : TypeId) (v : Value) (l : List α) : Prop := w.ownsRow B e n v l.length (cellsE enc l)
section
variable {α : Type} {n : Nat} {enc : α → List Value} {w w' : World} {B C : Nat} {e : TypeId} {v : Value} {A : Option Addr} {l : List α} {m c : Nat}
theorem OwnE.form (h : OwnE n enc w B e v l) : ∃ A c, v = .slice A l.length c ∧ c ≤ maxLen ∧ l.length ≤ c := by
  rcases h.2 with ⟨rfl, h0⟩ | ⟨g, cap, cur, rfl, _, _, h1, h2, _⟩
  · exact ⟨none, 0, by rw [h0], by simp, by omega⟩
  · exact ⟨_, _, rfl, h2, h1⟩
theorem OwnE.sees (hE : IsEl n enc) (h : OwnE n enc w B e (.slice A m c) l) : SeesE n enc w w.heap.size A l := fun j x hj => by
  have hl : j < l.length := (List.getElem?_eq_some_iff.1 hj).1
  rcases h.2 with ⟨_, h0⟩ | ⟨g, cap, cur, hv, _, hg, h1, h2, h3, h4⟩
  · omega
  · simp only [Value.slice.injEq] at hv
    obtain ⟨rfl, rfl, rfl⟩ := hv
    refine ⟨g, 0, rfl, (Array.getElem?_eq_some_iff.1 hg).1, fun k u hu => ?_⟩
    have hk : k < n := by have := (List.getElem?_eq_some_iff.1 hu).1; rw [(hE.2 x).1] at this; exact this
    have hc := cellsE_at hE hj hu
    have hlt : j * n + k < l.length * n := Nat.lt_of_lt_of_le (by rw [Nat.add_mul, Nat.one_mul]; omega : j * n + k < (j + 1) * n) (Nat.mul_le_mul_right n hl)
    rw [← h4, List.getElem?_take, if_pos hlt] at hc
    rw [Nat.zero_add, cell_of_row w g _ cur e (0, 0) hg, ← hc]; simp
theorem OwnE.seesB (hE : IsEl n enc) (h : OwnE n enc w B e (.slice A m c) l) (hC : ∀ g, Value.ownBlock (.slice A m c) = some g → g < C) : SeesE n enc w C A l := fun j x hj => by
  obtain ⟨b, off, rfl, hb, hc⟩ := h.sees hE j x hj
  exact ⟨b, off, rfl, hC _ rfl, hc⟩
theorem OwnE.lt (h : OwnE n enc w B e v l) : ∀ g, v.ownBlock = some g → B ≤ g ∧ g < w.heap.size := World.ownsRow.lt h
theorem OwnE.below (h : OwnE n enc w B e v l) (hb : Below C w w') (hC : ∀ g, v.ownBlock = some g → g < C) : OwnE n enc w' B e v l := by
  refine ⟨h.1, ?_⟩
  rcases h.2 with hn | ⟨g, cap, cur, rfl, hB, hg, rest⟩
  · exact .inl hn
  · exact .inr ⟨g, cap, cur, rfl, hB, (hb.block g (hC g rfl)).trans hg, rest⟩
theorem OwnE.belowAll (h : OwnE n enc w B e v l) (hb : Below w.heap.size w w') : OwnE n enc w' B e v l := h.below hb fun g hg => (World.ownsRow.lt h g hg).2
theorem OwnE.alloc (h : OwnE n enc w B e v l) (o : Obj) : OwnE n enc (w.alloc o) B e v l := World.ownsRow.alloc h o
theorem OwnE.drew (h : OwnE n enc w B e v l) : OwnE n enc w.drew B e v l := h
theorem OwnE.kept {r : Option Nat} (h : OwnE n enc w B e v l) (hg : w.grownBy w' r) (hne : v.ownBlock = none ∨ v.ownBlock ≠ r) : OwnE n enc w' B e v l := World.ownsRow.kept h hg hne
theorem OwnE.lit (w : World) (B : Nat) (e : TypeId) (hB : B ≤ w.heap.size) : OwnE n enc (w.alloc (.cells #[] e)) B e (.slice (some ⟨w.heap.size, 0, none⟩) 0 0) ([] : List α) :=
  World.ownsRow_lit (base := B) (e := e) (size := n) w #[] 0 hB (by simp) (by simp)
theorem OwnE.litAt (w : World) (B : Nat) (e : TypeId) (b : Nat) (hb : b = w.heap.size) (hB : B ≤ w.heap.size) : OwnE n enc (w.alloc (.cells #[] e)) B e (.slice (some ⟨b, 0, none⟩) 0 0) ([] : List α) := by
  subst hb; exact OwnE.lit w B e hB
theorem OwnE.nil (w : World) (B : Nat) (e : TypeId) : OwnE n enc w B e (.slice none 0 0) ([] : List α) := World.ownsRow_nil _ _ _ _
theorem OwnE.mono (h : OwnE n enc w B e v l) (hC : C ≤ B) : OwnE n enc w C e v l := by
  refine ⟨h.1, ?_⟩
  rcases h.2 with hn | ⟨g, cap, cur, rfl, hB, rest⟩
  · exact .inl hn
  · exact .inr ⟨g, cap, cur, rfl, by omega, rest⟩
theorem OwnE.cap (h : OwnE n enc w B e (.slice A m c) l) : l.length ≤ c := by
  obtain ⟨A', c', hv, _, h1⟩ := h.form
  simp only [Value.slice.injEq] at hv
  omega
theorem OwnE.len (h : OwnE n enc w B e (.slice A m c) l) : m = l.length := by
  obtain ⟨A', c', hv, _, h1⟩ := h.form
  simp only [Value.slice.injEq] at hv
  omega
end
/-- A call gives a new slice that shows l. -/
def GivesE {α : Type} (n : Nat) (enc : α → List Value) (T : TypeId) (l : List α) (w : World) (e : Ending) (w' : World) : Prop :=
  ∃ A c L, Hid (L = l) ∧ e = .returned (.slice A L.length c) ∧ OwnE n enc w' w.heap.size T (.slice A L.length c) L ∧ Below w.heap.size w w'
section
variable {α : Type} {n : Nat} {enc : α → List Value} {P : Program} (w : World)
/-- append(v, x...): v the call's own, x whatever shows l2. -/
theorem run_appE (hE : IsEl n enc) (t ty e : TypeId) (i : TypeInfo) (z : Value) (bytes : Nat) (ht : P.underlying t = some (.slice e)) (hi : P.info? e = some i) (hz : i.zero = some z)
    (hsize : i.size = n) (hby : i.bytes = bytes) (hzs : z.cells.size = n) (base : Nat) (v : Value) (l : List α) (hown : OwnE n enc w base e v l)
    (B : Nat) (A : Option Addr) (m c : Nat) (l2 : List α) (hm : m = l2.length) (hs : SeesE n enc w B A l2) (h63 : l.length + l2.length ≤ 1099511627776) (h8 : bytes ≤ 128) (hbase : base ≤ w.heap.size) :
    ∃ v' w', (Builtin.append_ #[t, t] ty #[v, .slice A m c]).run P w = .ok v' w' ∧ OwnE n enc w' base e v' (l ++ l2) ∧ w.grownBy w' v.ownBlock ∧ (v'.ownBlock = v.ownBlock ∨ v'.ownBlock = some w.heap.size) := by
  subst hm
  have hbb : (l.length + l2.length) * bytes ≤ 140737488355328 := Nat.le_trans (Nat.mul_le_mul h63 h8) (by decide)
  match A, hs with
  | none, hs =>
    have h0 : l2 = [] := by
      match l2, hs with
      | [], _ => rfl
      | x :: r, hs => obtain ⟨b, off, hA, _⟩ := hs 0 x rfl; cases hA
    subst h0
    exact ⟨v, w, app_nil w base t ty e i n ht hi hown none c rfl, by simpa [OwnE] using hown, World.grownBy.refl w _, .inl rfl⟩
  | some ad, hs =>
    have hc : ∀ j u, (cellsE enc l2)[j]? = some u → w.cell? (ad.add j) = some u := fun j u hu => by
      obtain ⟨i, k, x, hx, hk, rfl⟩ := cellsE_get hE hu
      obtain ⟨b, off, hA, _, h⟩ := hs i x hx
      injection hA with hA; subst hA
      rw [add_none, ← Nat.add_assoc]; exact h k u hk
    obtain ⟨v', w', hr, h2, h3, _, h5⟩ := run_append_own_at (P := P) w base t ty e i z n bytes ht hi hz hsize hby hzs hE.1 v l.length (cellsE enc l) hown ad l2.length c (cellsE enc l2) (cellsE_len hE l2) hc (cellsE_one hE l2)
      (by unfold maxLen; omega) hbb hbase
    exact ⟨v', w', hr, by unfold OwnE; rw [cellsE_app, List.length_append]; exact h2, h3, h5⟩
theorem wp_appE (hE : IsEl n enc) {o : Oper} {a : Act} {K : Act → World → Prop} {Q : Exit → Act → World → Prop} (s x : Operand) (t : TypeId)
    (ho : o.op = .call { callee := .builtin .append, args := #[s, x], argTypes := #[t, t] })
    (e : TypeId) (i : TypeInfo) (z : Value) (bytes : Nat) (ht : P.underlying t = some (.slice e)) (hi : P.info? e = some i) (hz : i.zero = some z)
    (hsize : i.size = n) (hby : i.bytes = bytes) (hzs : z.cells.size = n) (base : Nat) (v : Value) (l : List α) (hv : a.eval s = v) (hown : OwnE n enc w base e v l)
    (B : Nat) (A : Option Addr) (m c : Nat) (l2 : List α) (hx : a.eval x = .slice A m c) (hm : m = l2.length) (hs : SeesE n enc w B A l2) (h63 : l.length + l2.length ≤ 1099511627776) (h8 : bytes ≤ 128) (hbase : base ≤ w.heap.size)
    (h : ∀ A' c' L w', Hid (L = l ++ l2) → L.length ≤ l.length + l2.length → l.length + l2.length ≤ L.length → OwnE n enc w' base e (.slice A' L.length c') L → Below base w w' → K (a.put o.dst (.slice A' L.length c')) w') : o.wp P a w K Q := by
  obtain ⟨v', w', hrun, h2, h3, h4⟩ := run_appE (P := P) w hE t o.type e i z bytes ht hi hz hsize hby hzs base v l hown B A m c l2 hm hs h63 h8 hbase
  unfold Oper.wp execOp
  simp only [ho, resolve, invoke, builtin, Sem.run_bind, Sem.run_pure, Result.andThen_ok, List.map_toArray, List.map_cons, List.map_nil, hv, hx, hrun]
  obtain ⟨A', c', rfl, _, _⟩ := h2.form
  exact h A' c' _ w' (Lib.hid rfl) (by simp) (by simp) h2 ((Below.refl _ _).grown h3 hbase fun g hg => (World.ownsRow.lt hown g hg).1)
theorem wpList_appE (hE : IsEl n enc) {ops : Array Oper} {rest : List Oper} {o : Oper} {a : Act} {Q : Exit → Act → World → Prop} (hgd : o.guard = none) (s x : Operand) (t : TypeId)
    (ho : o.op = .call { callee := .builtin .append, args := #[s, x], argTypes := #[t, t] })
    (e : TypeId) (i : TypeInfo) (z : Value) (bytes : Nat) (ht : P.underlying t = some (.slice e)) (hi : P.info? e = some i) (hz : i.zero = some z)
    (hsize : i.size = n) (hby : i.bytes = bytes) (hzs : z.cells.size = n) (base : Nat) (v : Value) (l : List α) (hv : a.eval s = v) (hown : OwnE n enc w base e v l)
    (B : Nat) (A : Option Addr) (m c : Nat) (l2 : List α) (hx : a.eval x = .slice A m c) (hm : m = l2.length) (hs : SeesE n enc w B A l2) (h63 : l.length + l2.length ≤ 1099511627776) (h8 : bytes ≤ 128) (hbase : base ≤ w.heap.size)
    (h : ∀ A' c' L w', Hid (L = l ++ l2) → L.length ≤ l.length + l2.length → l.length + l2.length ≤ L.length → OwnE n enc w' base e (.slice A' L.length c') L → Below base w w' → wpList P ops Q rest (a.put o.dst (.slice A' L.length c')) w') :
    wpList P ops Q (o :: rest) a w :=
  wpList_plain hgd fun _ hK => wp_appE w hE s x t ho e i z bytes ht hi hz hsize hby hzs base v l hv hown B A m c l2 hx hm hs h63 h8 hbase fun A' c' L w' h1 h2 h3 h4 h5 => hK _ _ (h A' c' L w' h1 h2 h3 h4 h5)
end
/-- Block g is a row of c elements that begins with L. -/
def RowE {α : Type} (n : Nat) (enc : α → List Value) (w : World) (g : Nat) (e : TypeId) (c : Nat) (L : List α) : Prop :=
  ∃ cur : Array Value, w.heap[g]? = some (.cells cur e (0, 0)) ∧ L.length ≤ c ∧ c ≤ maxLen ∧ cur.size = c * n ∧ cur.toList.take (L.length * n) = cellsE enc L
section
variable {α : Type} {n : Nat} {enc : α → List Value} {w w' : World} {g B C : Nat} {e : TypeId} {c m : Nat} {L : List α} {A : Option Addr}
theorem RowE.lt (h : RowE n enc w g e c L) : g < w.heap.size := by obtain ⟨cur, hg, _⟩ := h; exact (Array.getElem?_eq_some_iff.1 hg).1
theorem RowE.cell (hE : IsEl n enc) (h : RowE n enc w g e c L) {j k : Nat} {x : α} {v : Value} (hx : L[j]? = some x) (hv : (enc x)[k]? = some v) : w.cell? ⟨g, j * n + k, none⟩ = some v := by
  obtain ⟨cur, hg, _, _, _, ht⟩ := h
  have hj : j < L.length := (List.getElem?_eq_some_iff.1 hx).1
  have hk : k < n := by have := (List.getElem?_eq_some_iff.1 hv).1; rw [(hE.2 x).1] at this; exact this
  have hlt : j * n + k < L.length * n := Nat.lt_of_lt_of_le (by rw [Nat.add_mul, Nat.one_mul]; omega : j * n + k < (j + 1) * n) (Nat.mul_le_mul_right n hj)
  have h1 := cellsE_at hE hx hv
  rw [← ht, List.getElem?_take, if_pos hlt] at h1
  rw [cell_of_row w g _ cur e (0, 0) hg, ← h1]; simp
theorem RowE.frozen (h : RowE n enc w g e c L) (j : Nat) : w.frozen? ⟨g, j, none⟩ = false := by
  obtain ⟨cur, hg, _⟩ := h
  exact frozen_of_row w g j cur e hg
/-- One cell of one element is written. -/
theorem RowE.put (hE : IsEl n enc) (h : RowE n enc w g e c L) {j k : Nat} {x x' : α} {v : Value} (hx : L[j]? = some x) (hk : k < n) (he : enc x' = (enc x).set k v) : RowE n enc (w.setCell ⟨g, j * n + k, none⟩ v) g e c (L.set j x') := by
  obtain ⟨cur, hg, h1, h2, h3, ht⟩ := h
  refine ⟨cur.setIfInBounds (j * n + k) v, heap_setCell_same w g _ cur e _ hg, by simpa using h1, h2, by simpa using h3, ?_⟩
  rw [Array.toList_setIfInBounds, List.length_set, List.take_set, ht, cellsE_set hE hx hk he]
theorem RowE.below (h : RowE n enc w g e c L) (hb : Below B w w') (hg : g < B) : RowE n enc w' g e c L := by
  obtain ⟨cur, h0, rest⟩ := h
  exact ⟨cur, (hb.block g hg).trans h0, rest⟩
theorem RowE.own (hE : IsEl n enc) (h : RowE n enc w g e c L) (hB : B ≤ g) : OwnE n enc w B e (.slice (some ⟨g, 0, none⟩) L.length c) L := by
  obtain ⟨cur, hg, h1, h2, h3, ht⟩ := h
  exact ⟨cellsE_len hE L, .inr ⟨g, c, cur, rfl, hB, hg, h1, h2, h3, ht⟩⟩
theorem OwnE.row (h : OwnE n enc w B e (.slice A m c) L) (hn : 0 < L.length) : ∃ g, A = some ⟨g, 0, none⟩ ∧ B ≤ g ∧ m = L.length ∧ RowE n enc w g e c L := by
  rcases h.2 with ⟨_, h0⟩ | ⟨g, cap, cur, hv, hB, hg, h1, h2, h3, h4⟩
  · omega
  · simp only [Value.slice.injEq] at hv
    obtain ⟨rfl, rfl, rfl⟩ := hv
    exact ⟨g, rfl, hB, rfl, cur, hg, h1, h2, h3, h4⟩
end
/-- A row that the call owns, in a block from lo on and below hi. -/
def HeldE {α : Type} (n : Nat) (enc : α → List Value) (w : World) (lo hi : Nat) (e : TypeId) (v : Value) (L : List α) : Prop := OwnE n enc w lo e v L ∧ (∀ g, v.ownBlock = some g → g < hi) ∧ hi ≤ w.heap.size
section
variable {α β : Type} {n n' : Nat} {enc : α → List Value} {enc' : β → List Value} {w w' : World} {lo hi lo' hi' C : Nat} {e e' : TypeId} {v v' : Value} {L : List α} {L' : List β} {A : Option Addr} {m c : Nat}
theorem OwnE.held (h : OwnE n enc w lo e v L) : HeldE n enc w lo w.heap.size e v L := ⟨h, fun g hg => (World.ownsRow.lt h g hg).2, Nat.le_refl _⟩
theorem HeldE.below (h : HeldE n enc w lo hi e v L) (hb : Below C w w') (hC : hi ≤ C) : HeldE n enc w' lo hi e v L :=
  ⟨h.1.below hb fun g hg => Nat.lt_of_lt_of_le (h.2.1 g hg) hC, h.2.1, Nat.le_trans h.2.2 hb.size⟩
theorem HeldE.belowAll (h : HeldE n enc w lo hi e v L) (hb : Below w.heap.size w w') : HeldE n enc w' lo hi e v L := h.below hb h.2.2
/-- Another row is written. -/
theorem HeldE.kept (h : HeldE n enc w lo hi e v L) (h' : HeldE n' enc' w lo' hi' e' v' L') (hd : hi ≤ lo' ∨ hi' ≤ lo) (hg : w.grownBy w' v'.ownBlock) : HeldE n enc w' lo hi e v L := by
  refine ⟨h.1.kept hg ?_, h.2.1, Nat.le_trans h.2.2 hg.size⟩
  match hv : v.ownBlock with
  | none => exact .inl rfl
  | some g =>
    refine .inr fun he => ?_
    have a1 := (World.ownsRow.lt h.1 g hv).1
    have a2 := h.2.1 g hv
    have b1 := (World.ownsRow.lt h'.1 g he.symm).1
    have b2 := h'.2.1 g he.symm
    omega
theorem HeldE.sees (hE : IsEl n enc) (h : HeldE n enc w lo hi e (.slice A m c) L) : SeesE n enc w hi A L := h.1.seesB hE h.2.1
theorem HeldE.seesAll (hE : IsEl n enc) (h : HeldE n enc w lo hi e (.slice A m c) L) : SeesE n enc w w.heap.size A L := h.1.sees hE
theorem belowE_mark {w0 : World} {B : Nat} (hb : Below B w0 w) (h : HeldE n enc w lo hi e v L) (hB : B ≤ lo) (hg : w.grownBy w' v.ownBlock) (hBw : B ≤ w.heap.size) : Below B w0 w' :=
  hb.grown hg hBw fun g hg' => Nat.le_trans hB (World.ownsRow.lt h.1 g hg').1
end
/-- What has been laid so far: the first j entries are f's. -/
def FillE {α : Type} (f : Nat → Option α) (j : Nat) (L : List α) : Prop := ∀ i, i < j → L[i]? = f i
theorem FillE.zero {α : Type} (f : Nat → Option α) (L : List α) : FillE f 0 L := fun i h => by omega
theorem FillE.set {α : Type} {f : Nat → Option α} {j : Nat} {L : List α} {x : α} (h : FillE f j L) (hj : j < L.length) (hx : f j = some x) : FillE f (j + 1) (L.set j x) := fun i hi => by
  rw [List.getElem?_set]
  split
  · next e => subst e; simp [hx]
  · exact h i (by omega)
theorem FillE.done {α : Type} {f : Nat → Option α} {L l : List α} (h : FillE f L.length L) (hl : l.length = L.length) (hf : ∀ i, i < l.length → l[i]? = f i) : L = l := by
  apply List.ext_getElem?
  intro i
  by_cases hi : i < L.length
  · rw [h i hi, hf i (by omega)]
  · rw [List.getElem?_eq_none (by omega), List.getElem?_eq_none (by omega)]
/-- The first j entries of one, the others of another. -/
def MixE {α : Type} (f : Nat → Option α) (l : List α) (j : Nat) (L : List α) : Prop := L.length = l.length ∧ FillE f j L ∧ ∀ i, j ≤ i → L[i]? = l[i]?
theorem MixE.zero {α : Type} (f : Nat → Option α) (l : List α) : MixE f l 0 l := ⟨rfl, FillE.zero _ _, fun _ _ => rfl⟩
theorem MixE.set {α : Type} {f : Nat → Option α} {l L : List α} {j : Nat} {x : α} (h : MixE f l j L) (hj : j < l.length) (hx : f j = some x) : MixE f l (j + 1) (L.set j x) :=
  ⟨by rw [List.length_set, h.1], h.2.1.set (by rw [h.1]; exact hj) hx, fun i hi => by rw [List.getElem?_set_ne (by omega), h.2.2 i (by omega)]⟩
section
variable {α : Type} {n : Nat} {enc : α → List Value} {P : Program} (w : World)
/-- make of m zero elements: a row of the call's own, at the heap's end. -/
theorem wpList_make_rowE (hE : IsEl n enc) {ops : Array Oper} {rest : List Oper} {o : Oper} {a : Act} {Q : Exit → Act → World → Prop}
    (hg : o.guard = none) (l c : Operand) (t : TypeId) (hop : o.op = Op.makeSlice t l c)
    (e : TypeId) (i : TypeInfo) (z : Value) (x0 : α) (bytes : Nat) (h1 : P.underlying t = some (.slice e)) (h2 : P.info? e = some i) (h3 : i.zero = some z) (h4 : i.size = n) (h5 : i.bytes = bytes) (h8 : bytes ≤ 128) (hz : z.cells.toList = enc x0)
    (kl kc : IntKind) (m : Nat) (hl : a.eval l = .int kl (m : Int)) (hc : a.eval c = .int kc (m : Int)) (hn : m ≤ 1099511627776)
    (hK : ∀ w', RowE n enc w' w.heap.size e m (List.replicate m x0) → Below w.heap.size w w' → wpList P ops Q rest (a.put o.dst (.slice (some ⟨w.heap.size, 0, none⟩) m m)) w') :
    wpList P ops Q (o :: rest) a w := by
  refine wpList_make_full w hg l c t hop w.heap.size e i z n h1 h2 h3 h4 kl kc _ _ m hl hc rfl rfl (by rw [h5]; exact Nat.le_trans (Nat.mul_le_mul h8 hn) (by decide)) (by unfold maxLen; omega) (Nat.le_refl _) fun w' hown hgr => ?_
  refine hK w' ?_ ((Below.refl _ _).grown hgr (Nat.le_refl _) (fun k hk => by cases hk))
  have hzl : z.cells.size = n := by rw [← Array.length_toList, hz]; exact (hE.2 x0).1
  have e1 : (madeCells z.cells (m * n)).toList = cellsE enc (List.replicate m x0) := by
    apply List.ext_getElem?
    intro j
    by_cases hj : j < m * n
    · have hq : j / n < m := Nat.div_lt_of_lt_mul (by rw [Nat.mul_comm]; exact hj)
      have hr : j % n < n := Nat.mod_lt _ hE.1
      have hx : (List.replicate m x0)[j / n]? = some x0 := by simp [hq]
      obtain ⟨u, hu⟩ : ∃ u, (enc x0)[j % n]? = some u := ⟨_, List.getElem?_eq_getElem (by rw [(hE.2 x0).1]; exact hr)⟩
      have := cellsE_at hE hx hu
      rw [show j / n * n + j % n = j by rw [Nat.mul_comm]; exact Nat.div_add_mod j n] at this
      rw [this, ← hu, ← hz]
      simp [madeCells, hj, hzl]
      rw [Array.getElem?_eq_getElem (by rw [hzl]; exact hr), getElem!_pos _ _ (by rw [hzl]; exact hr)]
    · rw [List.getElem?_eq_none (by simp [madeCells]; omega), List.getElem?_eq_none (by rw [cellsE_len hE, List.length_replicate]; omega)]
  rw [e1] at hown
  rcases hown.2 with ⟨hv, _⟩ | ⟨g, cap, cur, hv, _, hg, q1, q2, q3, q4⟩
  · cases hv
  · simp only [Value.slice.injEq, Option.some.injEq, Addr.mk.injEq, and_true] at hv
    obtain ⟨rfl, _, rfl⟩ := hv
    exact ⟨cur, hg, by simp, q2, q3, by rw [List.length_replicate]; exact q4⟩
end
theorem SeesE.pre {α : Type} {n : Nat} {enc : α → List Value} {w : World} {B : Nat} {A : Option Addr} {l : List α} (h : SeesE n enc w B A l) (j : Nat) : SeesE n enc w B A (l.take j) := fun i x hi => by
  rw [List.getElem?_take] at hi
  split at hi
  · exact h i x hi
  · cases hi
theorem SeesE.suf {α : Type} {n : Nat} {enc : α → List Value} {w : World} {B : Nat} {A : Option Addr} {l : List α} (h : SeesE n enc w B A l) (j : Nat) (A' : Option Addr) (hA : j < l.length → A' = A.map (·.add (j * n))) : SeesE n enc w B A' (l.drop j) := by
  have := h.cut j (l.length - j) A' hA
  rwa [List.take_of_length_le (by simp)] at this
end Go.Proofs.YtbnjaaegbmhopaaGreatDoor
