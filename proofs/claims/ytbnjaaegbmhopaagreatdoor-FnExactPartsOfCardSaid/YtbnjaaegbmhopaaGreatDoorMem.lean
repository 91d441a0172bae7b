/- Slices of integers as lists: what a slice shows, what a call owns, what append makes of it. -/
import Derived.Test.YtbnjaaegbmhopaaGreatDoorProg
import Derived.WalkKit
import Derived.Below
import Derived.WalkSmall
import Derived.RegionTactic
import Derived.ChangeAlike
import Derived.Deep.QuietTactic
import Derived.Deep.AppendLies
import Derived.BigQuiet
import Derived.IntWalk
import Derived.OneCell
import Derived.Laws.BitsLemmas
import Derived.Laws.Rows
import Derived.Lib.Hide
import Derived.Maps.AppendAt
namespace Go.Proofs.YtbnjaaegbmhopaaGreatDoor
open Go.RowKit
set_option linter.unusedVariables false

theorem add_none (b off j : Nat) : (⟨b, off, none⟩ : Addr).add j = ⟨b, off + j, none⟩ := by
  unfold Addr.add; split
  · next h => subst h; rfl
  · rfl
/-- The cells of a list of integers. -/
def kv (k : IntKind) (l : List Int) : List Value := l.map (Value.int k)
theorem kv_len (k : IntKind) (l : List Int) : (kv k l).length = l.length := by simp [kv]
theorem kv_app (k : IntKind) (l m : List Int) : kv k (l ++ m) = kv k l ++ kv k m := by simp [kv]
theorem kv_get {k : IntKind} {l : List Int} {j : Nat} {u : Value} (h : (kv k l)[j]? = some u) : ∃ x, l[j]? = some x ∧ u = .int k x := by
  simp only [kv, List.getElem?_map, Option.map_eq_some_iff] at h
  obtain ⟨x, hx, rfl⟩ := h
  exact ⟨x, hx, rfl⟩
theorem kv_at {k : IntKind} {l : List Int} {j : Nat} {x : Int} (h : l[j]? = some x) : (kv k l)[j]? = some (.int k x) := by simp [kv, h]
theorem kv_one (k : IntKind) (l : List Int) : ∀ u ∈ kv k l, u.oneCell' = true := by
  intro u hu
  simp only [kv, List.mem_map] at hu
  obtain ⟨x, _, rfl⟩ := hu
  rfl

/-- What a slice value shows: a list of integers, below block B. -/
def Sees (w : World) (B : Nat) (k : IntKind) (A : Option Addr) (l : List Int) : Prop :=
  ∀ j x, l[j]? = some x → ∃ b off, A = some ⟨b, off, none⟩ ∧ b < B ∧ w.cell? ⟨b, off + j, none⟩ = some (.int k x)
section
variable {w w' : World} {B B' : Nat} {k : IntKind} {A : Option Addr} {l : List Int}
theorem Sees.nil : Sees w B k A [] := fun j x h => by simp at h
theorem Sees.lt (h : Sees w B k A l) {j : Nat} (hj : j < l.length) : ∃ b off x, A = some ⟨b, off, none⟩ ∧ b < B ∧ l[j]? = some x ∧ w.cell? ⟨b, off + j, none⟩ = some (.int k x) := by
  obtain ⟨b, off, e, hb, hc⟩ := h j l[j] (List.getElem?_eq_getElem hj)
  exact ⟨b, off, _, e, hb, List.getElem?_eq_getElem hj, hc⟩
theorem Sees.below (h : Sees w B k A l) (hb : Below B w w') : Sees w' B k A l := fun j x hj => by
  obtain ⟨b, off, e, hlt, hc⟩ := h j x hj
  exact ⟨b, off, e, hlt, (hb.cell (p := ⟨b, off + j, none⟩) hlt).trans hc⟩
theorem Sees.mono (h : Sees w B k A l) (hB : B ≤ B') : Sees w B' k A l := fun j x hj => by
  obtain ⟨b, off, e, hlt, hc⟩ := h j x hj
  exact ⟨b, off, e, by omega, hc⟩
theorem Sees.alloc (h : Sees w B k A l) (hB : B ≤ w.heap.size) (o : Obj) : Sees (w.alloc o) B k A l := h.below ((Below.refl _ _).alloc hB o)
/-- A cut. -/
theorem Sees.cut (h : Sees w B k A l) (lo n : Nat) (A' : Option Addr) (hA : lo < l.length → A' = A.map (·.add lo)) : Sees w B k A' ((l.drop lo).take n) := fun j x hj => by
  have hx : l[lo + j]? = some x := by
    rw [List.getElem?_take] at hj
    split at hj
    · rwa [List.getElem?_drop] at hj
    · cases hj
  obtain ⟨b, off, rfl, hlt, hc⟩ := h (lo + j) x hx
  have hl : lo + j < l.length := (List.getElem?_eq_some_iff.1 hx).1
  exact ⟨b, off + lo, by rw [hA (by omega)]; simp [add_none], hlt, by rw [Nat.add_assoc]; exact hc⟩
theorem sees_new (w : World) (k : IntKind) (x : Int) (T : TypeId) (B : Nat) (hB : w.heap.size < B) : Sees (w.alloc (.cells #[.int k x] T)) B k (some ⟨w.heap.size, 0, none⟩) [x] := fun j y hj => by
  match j, hj with
  | 0, hj =>
    simp at hj; subst hj
    exact ⟨_, _, rfl, hB, by simp [go_sem]⟩
end

/-- A row of integers that the call owns, from block B on. -/
def Own (w : World) (B : Nat) (e : TypeId) (k : IntKind) (v : Value) (l : List Int) : Prop := w.ownsRow B e 1 v l.length (kv k l)
section
variable {w w' : World} {B C : Nat} {e : TypeId} {k : IntKind} {v : Value} {A : Option Addr} {l : List Int} {n c : Nat}
theorem Own.form (h : Own w B e k v l) : ∃ A c, v = .slice A l.length c ∧ c ≤ maxLen ∧ l.length ≤ c := by
  rcases h.2 with ⟨rfl, h0⟩ | ⟨g, cap, cur, rfl, _, _, h1, h2, _⟩
  · exact ⟨none, 0, by rw [h0], by simp, by omega⟩
  · exact ⟨_, _, rfl, h2, h1⟩
theorem Own.sees (h : Own w B e k (.slice A n c) l) : Sees w w.heap.size k A l := fun j x hj => by
  have hl : j < l.length := (List.getElem?_eq_some_iff.1 hj).1
  rcases h.2 with ⟨_, h0⟩ | ⟨g, cap, cur, hv, _, hg, _⟩
  · omega
  · simp only [Value.slice.injEq] at hv
    obtain ⟨rfl, rfl, rfl⟩ := hv
    refine ⟨g, 0, rfl, (Array.getElem?_eq_some_iff.1 hg).1, ?_⟩
    rw [Nat.zero_add, World.ownsRow.cellAt h j (by omega)]
    exact kv_at hj
theorem Own.seesB (h : Own w B e k (.slice A n c) l) (hC : ∀ g, Value.ownBlock (.slice A n c) = some g → g < C) : Sees w C k A l := fun j x hj => by
  obtain ⟨b, off, rfl, hb, hc⟩ := h.sees j x hj
  exact ⟨b, off, rfl, hC _ rfl, hc⟩
/-- The row's block. -/
theorem Own.at_ (h : Own w B e k (.slice A n c) l) : ∀ g, Value.ownBlock (.slice A n c) = some g → B ≤ g ∧ g < w.heap.size := World.ownsRow.lt h
theorem Own.below (h : Own w B e k v l) (hb : Below C w w') (hC : ∀ g, v.ownBlock = some g → g < C) : Own w' B e k v l := by
  refine ⟨h.1, ?_⟩
  rcases h.2 with hn | ⟨g, cap, cur, rfl, hB, hg, rest⟩
  · exact .inl hn
  · exact .inr ⟨g, cap, cur, rfl, hB, (hb.block g (hC g rfl)).trans hg, rest⟩
theorem Own.belowAll (h : Own w B e k v l) (hb : Below w.heap.size w w') : Own w' B e k v l := h.below hb fun g hg => (World.ownsRow.lt h g hg).2
theorem Own.alloc (h : Own w B e k v l) (o : Obj) : Own (w.alloc o) B e k v l := World.ownsRow.alloc h o
theorem Own.kept {r : Option Nat} (h : Own w B e k v l) (hg : w.grownBy w' r) (hne : v.ownBlock = none ∨ v.ownBlock ≠ r) : Own w' B e k v l := World.ownsRow.kept h hg hne
theorem Own.lit (w : World) (B : Nat) (e : TypeId) (k : IntKind) (hB : B ≤ w.heap.size) : Own (w.alloc (.cells #[] e)) B e k (.slice (some ⟨w.heap.size, 0, none⟩) 0 0) [] :=
  World.ownsRow_lit (base := B) (e := e) (size := 1) w #[] 0 hB (by simp) rfl
theorem Own.nil (w : World) (B : Nat) (e : TypeId) (k : IntKind) : Own w B e k (.slice none 0 0) [] := World.ownsRow_nil _ _ _ _
theorem Own.mono (h : Own w B e k v l) (hC : C ≤ B) : Own w C e k v l := by
  refine ⟨h.1, ?_⟩
  rcases h.2 with hn | ⟨g, cap, cur, rfl, hB, rest⟩
  · exact .inl hn
  · exact .inr ⟨g, cap, cur, rfl, by omega, rest⟩
end
/-- A call gives a new slice that shows l. -/
def Gives (T : TypeId) (k : IntKind) (l : List Int) (w : World) (e : Ending) (w' : World) : Prop :=
  ∃ A c L, Hid (L = l) ∧ e = .returned (.slice A L.length c) ∧ Own w' w.heap.size T k (.slice A L.length c) L ∧ Below w.heap.size w w'

section
variable {P : Program} (w : World)
theorem app_nil (base : Nat) (t ty e : TypeId) (i : TypeInfo) (size : Nat) (ht : P.underlying t = some (.slice e)) (hi : P.info? e = some i)
    {v : Value} {n : Nat} {xs : List Value} (hown : w.ownsRow base e size v n xs) (A : Option Addr) (c : Nat) (hA : A = none) : (Builtin.append_ #[t, t] ty #[v, .slice A 0 c]).run P w = .ok v w := by
  subst hA
  have hu := run_underlying (P := P) (w := w) ht
  rcases hown.2 with ⟨rfl, _⟩ | ⟨g, cap, cur, rfl, _, _, hnc, _⟩
  · simp [Builtin.append_, hu, sizeOf, typeInfo, hi, Builtin.lenOf, Builtin.firstCells]
  · simp [Builtin.append_, hu, sizeOf, typeInfo, hi, Builtin.lenOf, Builtin.firstCells, hnc, storeCells]
/-- append(v, x...): v the call's own, x whatever shows l2. -/
theorem run_app (t ty e : TypeId) (k : IntKind) (i : TypeInfo) (z : Value) (bytes : Nat) (ht : P.underlying t = some (.slice e)) (hi : P.info? e = some i) (hz : i.zero = some z)
    (hsize : i.size = 1) (hby : i.bytes = bytes) (hzs : z.cells.size = 1) (base : Nat) (v : Value) (l : List Int) (hown : Own w base e k v l)
    (B : Nat) (A : Option Addr) (m c : Nat) (l2 : List Int) (hm : m = l2.length) (hs : Sees w B k A l2) (h63 : l.length + l2.length ≤ 17592186044416) (h8 : bytes ≤ 8) (hbase : base ≤ w.heap.size) :
    ∃ v' w', (Builtin.append_ #[t, t] ty #[v, .slice A m c]).run P w = .ok v' w' ∧ Own w' base e k v' (l ++ l2) ∧ w.grownBy w' v.ownBlock ∧ (v'.ownBlock = v.ownBlock ∨ v'.ownBlock = some w.heap.size) := by
  subst hm
  have hbb : (l.length + l2.length) * bytes ≤ 140737488355328 := Nat.le_trans (Nat.mul_le_mul h63 h8) (by decide)
  match A, hs with
  | none, hs =>
    have h0 : l2 = [] := by
      match l2, hs with
      | [], _ => rfl
      | x :: r, hs => obtain ⟨b, off, hA, _⟩ := hs 0 x rfl; cases hA
    subst h0
    exact ⟨v, w, app_nil w base t ty e i 1 ht hi hown none c rfl, by simpa [Own] using hown, World.grownBy.refl w _, .inl rfl⟩
  | some ad, hs =>
    have hc : ∀ j u, (kv k l2)[j]? = some u → w.cell? (ad.add j) = some u := fun j u hu => by
      obtain ⟨x, hx, rfl⟩ := kv_get hu
      obtain ⟨b, off, hA, _, h⟩ := hs j x hx
      injection hA with hA; subst hA
      rw [add_none]; exact h
    obtain ⟨v', w', hr, h2, h3, _, h5⟩ := run_append_own_at (P := P) w base t ty e i z 1 bytes ht hi hz hsize hby hzs (by decide) v l.length (kv k l) hown ad l2.length c (kv k l2) (by simp [kv]) hc (kv_one k l2)
      (by unfold maxLen; omega) hbb hbase
    exact ⟨v', w', hr, by unfold Own; rw [kv_app, List.length_append]; exact h2, h3, h5⟩
theorem wp_app {o : Oper} {a : Act} {K : Act → World → Prop} {Q : Exit → Act → World → Prop} (s x : Operand) (t : TypeId)
    (ho : o.op = .call { callee := .builtin .append, args := #[s, x], argTypes := #[t, t] })
    (e : TypeId) (k : IntKind) (i : TypeInfo) (z : Value) (bytes : Nat) (ht : P.underlying t = some (.slice e)) (hi : P.info? e = some i) (hz : i.zero = some z)
    (hsize : i.size = 1) (hby : i.bytes = bytes) (hzs : z.cells.size = 1) (base : Nat) (v : Value) (l : List Int) (hv : a.eval s = v) (hown : Own w base e k v l)
    (B : Nat) (A : Option Addr) (m c : Nat) (l2 : List Int) (hx : a.eval x = .slice A m c) (hm : m = l2.length) (hs : Sees w B k A l2) (h63 : l.length + l2.length ≤ 17592186044416) (h8 : bytes ≤ 8) (hbase : base ≤ w.heap.size)
    (h : ∀ A' c' L w', Hid (L = l ++ l2) → L.length ≤ l.length + l2.length → l.length + l2.length ≤ L.length → Own w' base e k (.slice A' L.length c') L → Below base w w' → K (a.put o.dst (.slice A' L.length c')) w') : o.wp P a w K Q := by
  obtain ⟨v', w', hrun, h2, h3, h4⟩ := run_app (P := P) w t o.type e k i z bytes ht hi hz hsize hby hzs base v l hown B A m c l2 hm hs h63 h8 hbase
  unfold Oper.wp execOp
  simp only [ho, resolve, invoke, builtin, Sem.run_bind, Sem.run_pure, Result.andThen_ok, List.map_toArray, List.map_cons, List.map_nil, hv, hx, hrun]
  obtain ⟨A', c', rfl, _, _⟩ := h2.form
  exact h A' c' _ w' (Lib.hid rfl) (by simp) (by simp) h2 ((Below.refl _ _).grown h3 hbase fun g hg => (World.ownsRow.lt hown g hg).1)
theorem wpList_app {ops : Array Oper} {rest : List Oper} {o : Oper} {a : Act} {Q : Exit → Act → World → Prop} (hgd : o.guard = none) (s x : Operand) (t : TypeId)
    (ho : o.op = .call { callee := .builtin .append, args := #[s, x], argTypes := #[t, t] })
    (e : TypeId) (k : IntKind) (i : TypeInfo) (z : Value) (bytes : Nat) (ht : P.underlying t = some (.slice e)) (hi : P.info? e = some i) (hz : i.zero = some z)
    (hsize : i.size = 1) (hby : i.bytes = bytes) (hzs : z.cells.size = 1) (base : Nat) (v : Value) (l : List Int) (hv : a.eval s = v) (hown : Own w base e k v l)
    (B : Nat) (A : Option Addr) (m c : Nat) (l2 : List Int) (hx : a.eval x = .slice A m c) (hm : m = l2.length) (hs : Sees w B k A l2) (h63 : l.length + l2.length ≤ 17592186044416) (h8 : bytes ≤ 8) (hbase : base ≤ w.heap.size)
    (h : ∀ A' c' L w', Hid (L = l ++ l2) → L.length ≤ l.length + l2.length → l.length + l2.length ≤ L.length → Own w' base e k (.slice A' L.length c') L → Below base w w' → wpList P ops Q rest (a.put o.dst (.slice A' L.length c')) w') :
    wpList P ops Q (o :: rest) a w :=
  wpList_plain hgd fun _ hK => wp_app w s x t ho e k i z bytes ht hi hz hsize hby hzs base v l hv hown B A m c l2 hx hm hs h63 h8 hbase fun A' c' L w' h1 h2 h3 h4 h5 => hK _ _ (h A' c' L w' h1 h2 h3 h4 h5)
end
theorem info_u8 : (Tryz.prog.info? 5).map (fun i => (i.zero, i.size, i.bytes)) = some (some (.int .u8 0), 1, 1) := by kernel_rfl
/-- append onto the call's own bytes. -/
theorem app8 (w : World) {ops : Array Oper} {rest : List Oper} {o : Oper} {a : Act} {Q : Exit → Act → World → Prop} (hgd : o.guard = none) (s x : Operand)
    (ho : o.op = .call { callee := .builtin .append, args := #[s, x], argTypes := #[22, 22] })
    (base : Nat) (v : Value) (l : List Int) (hv : a.eval s = v) (hown : Own w base 5 .u8 v l)
    (B : Nat) (A : Option Addr) (m c : Nat) (l2 : List Int) (hx : a.eval x = .slice A m c) (hm : m = l2.length) (hs : Sees w B .u8 A l2) (h63 : l.length + l2.length ≤ 17592186044416) (hbase : base ≤ w.heap.size)
    (h : ∀ A' c' L w', Hid (L = l ++ l2) → L.length ≤ l.length + l2.length → l.length + l2.length ≤ L.length → Own w' base 5 .u8 (.slice A' L.length c') L → Below base w w' → wpList Tryz.prog ops Q rest (a.put o.dst (.slice A' L.length c')) w') :
    wpList Tryz.prog ops Q (o :: rest) a w := by
  obtain ⟨i, hi, hz, h1, h2⟩ := info_parts info_u8
  exact wpList_app w hgd s x _ ho _ .u8 i _ 1 Tryz.underlying22 hi hz h1 h2 rfl base v l hv hown B A m c l2 hx hm hs h63 (by decide) hbase h
theorem info_int : (Tryz.prog.info? 3).map (fun i => (i.zero, i.size, i.bytes)) = some (some (.int .i64 0), 1, 8) := by kernel_rfl
/-- append onto the call's own ints. -/
theorem app64 (w : World) {ops : Array Oper} {rest : List Oper} {o : Oper} {a : Act} {Q : Exit → Act → World → Prop} (hgd : o.guard = none) (s x : Operand)
    (ho : o.op = .call { callee := .builtin .append, args := #[s, x], argTypes := #[163, 163] })
    (base : Nat) (v : Value) (l : List Int) (hv : a.eval s = v) (hown : Own w base 3 .i64 v l)
    (B : Nat) (A : Option Addr) (m c : Nat) (l2 : List Int) (hx : a.eval x = .slice A m c) (hm : m = l2.length) (hs : Sees w B .i64 A l2) (h63 : l.length + l2.length ≤ 17592186044416) (hbase : base ≤ w.heap.size)
    (h : ∀ A' c' L w', Hid (L = l ++ l2) → L.length ≤ l.length + l2.length → l.length + l2.length ≤ L.length → Own w' base 3 .i64 (.slice A' L.length c') L → Below base w w' → wpList Tryz.prog ops Q rest (a.put o.dst (.slice A' L.length c')) w') :
    wpList Tryz.prog ops Q (o :: rest) a w := by
  obtain ⟨i, hi, hz, h1, h2⟩ := info_parts info_int
  exact wpList_app w hgd s x _ ho _ .i64 i _ 8 Tryz.underlying163 hi hz h1 h2 rfl base v l hv hown B A m c l2 hx hm hs h63 (by decide) hbase h
/-- The same, behind a guard that is met. -/
theorem app8_w (w : World) {ops : Array Oper} {rest : List Oper} {o : Oper} {a : Act} {Q : Exit → Act → World → Prop} (hw : Region.wanted o (yielded ops a.tmps) = true) (s x : Operand)
    (ho : o.op = .call { callee := .builtin .append, args := #[s, x], argTypes := #[22, 22] })
    (base : Nat) (v : Value) (l : List Int) (hv : a.eval s = v) (hown : Own w base 5 .u8 v l)
    (B : Nat) (A : Option Addr) (m c : Nat) (l2 : List Int) (hx : a.eval x = .slice A m c) (hm : m = l2.length) (hs : Sees w B .u8 A l2) (h63 : l.length + l2.length ≤ 17592186044416) (hbase : base ≤ w.heap.size)
    (h : ∀ A' c' L w', Hid (L = l ++ l2) → L.length ≤ l.length + l2.length → l.length + l2.length ≤ L.length → Own w' base 5 .u8 (.slice A' L.length c') L → Below base w w' → wpList Tryz.prog ops Q rest (a.put o.dst (.slice A' L.length c')) w') :
    wpList Tryz.prog ops Q (o :: rest) a w :=
  wpList_step fun K hK => by
    rw [if_pos hw]
    obtain ⟨i, hi, hz, h1, h2⟩ := info_parts info_u8
    exact wp_app w s x _ ho _ .u8 i _ 1 Tryz.underlying22 hi hz h1 h2 rfl base v l hv hown B A m c l2 hx hm hs h63 (by decide) hbase fun A' c' L w' g1 g2 g3 g4 g5 => hK _ _ (h A' c' L w' g1 g2 g3 g4 g5)
/-- The same, as one step of a region that draws its order. -/
theorem step_app8 (w : World) {ops : Array Oper} {o : Oper} {a : Act} {K : Act → World → Prop} {Q : Exit → Act → World → Prop} {E : Prop} (hgd : o.guard = none) (s x : Operand)
    (ho : o.op = .call { callee := .builtin .append, args := #[s, x], argTypes := #[22, 22] })
    (base : Nat) (v : Value) (l : List Int) (hv : a.eval s = v) (hown : Own w base 5 .u8 v l)
    (B : Nat) (A : Option Addr) (m c : Nat) (l2 : List Int) (hx : a.eval x = .slice A m c) (hm : m = l2.length) (hs : Sees w B .u8 A l2) (h63 : l.length + l2.length ≤ 17592186044416) (hbase : base ≤ w.heap.size)
    (h : ∀ A' c' L w', Hid (L = l ++ l2) → L.length ≤ l.length + l2.length → l.length + l2.length ≤ L.length → Own w' base 5 .u8 (.slice A' L.length c') L → Below base w w' → K (a.put o.dst (.slice A' L.length c')) w') :
    if Region.wanted o (yielded ops a.tmps) = true then Oper.wp Tryz.prog o a w K Q else E := by
  have hw : Region.wanted o (yielded ops a.tmps) = true := by simp [Region.wanted, hgd]
  rw [if_pos hw]
  obtain ⟨i, hi, hz, h1, h2⟩ := info_parts info_u8
  exact wp_app w s x _ ho _ .u8 i _ 1 Tryz.underlying22 hi hz h1 h2 rfl base v l hv hown B A m c l2 hx hm hs h63 (by decide) hbase h
/-- The same, behind a guard that is met. -/
theorem app64_w (w : World) {ops : Array Oper} {rest : List Oper} {o : Oper} {a : Act} {Q : Exit → Act → World → Prop} (hw : Region.wanted o (yielded ops a.tmps) = true) (s x : Operand)
    (ho : o.op = .call { callee := .builtin .append, args := #[s, x], argTypes := #[163, 163] })
    (base : Nat) (v : Value) (l : List Int) (hv : a.eval s = v) (hown : Own w base 3 .i64 v l)
    (B : Nat) (A : Option Addr) (m c : Nat) (l2 : List Int) (hx : a.eval x = .slice A m c) (hm : m = l2.length) (hs : Sees w B .i64 A l2) (h63 : l.length + l2.length ≤ 17592186044416) (hbase : base ≤ w.heap.size)
    (h : ∀ A' c' L w', Hid (L = l ++ l2) → L.length ≤ l.length + l2.length → l.length + l2.length ≤ L.length → Own w' base 3 .i64 (.slice A' L.length c') L → Below base w w' → wpList Tryz.prog ops Q rest (a.put o.dst (.slice A' L.length c')) w') :
    wpList Tryz.prog ops Q (o :: rest) a w :=
  wpList_step fun K hK => by
    rw [if_pos hw]
    obtain ⟨i, hi, hz, h1, h2⟩ := info_parts info_int
    exact wp_app w s x _ ho _ .i64 i _ 8 Tryz.underlying163 hi hz h1 h2 rfl base v l hv hown B A m c l2 hx hm hs h63 (by decide) hbase fun A' c' L w' g1 g2 g3 g4 g5 => hK _ _ (h A' c' L w' g1 g2 g3 g4 g5)
/-- The same, as one step of a region that draws its order. -/
theorem step_app64 (w : World) {ops : Array Oper} {o : Oper} {a : Act} {K : Act → World → Prop} {Q : Exit → Act → World → Prop} {E : Prop} (hgd : o.guard = none) (s x : Operand)
    (ho : o.op = .call { callee := .builtin .append, args := #[s, x], argTypes := #[163, 163] })
    (base : Nat) (v : Value) (l : List Int) (hv : a.eval s = v) (hown : Own w base 3 .i64 v l)
    (B : Nat) (A : Option Addr) (m c : Nat) (l2 : List Int) (hx : a.eval x = .slice A m c) (hm : m = l2.length) (hs : Sees w B .i64 A l2) (h63 : l.length + l2.length ≤ 17592186044416) (hbase : base ≤ w.heap.size)
    (h : ∀ A' c' L w', Hid (L = l ++ l2) → L.length ≤ l.length + l2.length → l.length + l2.length ≤ L.length → Own w' base 3 .i64 (.slice A' L.length c') L → Below base w w' → K (a.put o.dst (.slice A' L.length c')) w') :
    if Region.wanted o (yielded ops a.tmps) = true then Oper.wp Tryz.prog o a w K Q else E := by
  have hw : Region.wanted o (yielded ops a.tmps) = true := by simp [Region.wanted, hgd]
  rw [if_pos hw]
  obtain ⟨i, hi, hz, h1, h2⟩ := info_parts info_int
  exact wp_app w s x _ ho _ .i64 i _ 8 Tryz.underlying163 hi hz h1 h2 rfl base v l hv hown B A m c l2 hx hm hs h63 (by decide) hbase h
/-- Block g is a row of c cells that begins with L. -/
def Row (w : World) (g : Nat) (e : TypeId) (k : IntKind) (c : Nat) (L : List Int) : Prop :=
  ∃ cur : Array Value, w.heap[g]? = some (.cells cur e (0, 0)) ∧ L.length ≤ c ∧ c ≤ maxLen ∧ cur.size = c ∧ cur.toList.take L.length = kv k L
section
variable {w w' : World} {g B C : Nat} {e : TypeId} {k : IntKind} {c n : Nat} {L : List Int} {A : Option Addr}
theorem Row.lt (h : Row w g e k c L) : g < w.heap.size := by obtain ⟨cur, hg, _⟩ := h; exact (Array.getElem?_eq_some_iff.1 hg).1
theorem Row.cell (h : Row w g e k c L) {j : Nat} {x : Int} (hx : L[j]? = some x) : w.cell? ⟨g, j, none⟩ = some (.int k x) := by
  obtain ⟨cur, hg, _, _, _, ht⟩ := h
  have hj : j < L.length := (List.getElem?_eq_some_iff.1 hx).1
  have h1 := kv_at (k := k) hx
  rw [← ht, List.getElem?_take, if_pos hj] at h1
  rw [cell_of_row w g j cur e (0, 0) hg, ← h1]; simp
theorem Row.frozen (h : Row w g e k c L) (j : Nat) : w.frozen? ⟨g, j, none⟩ = false := by
  obtain ⟨cur, hg, _⟩ := h
  exact frozen_of_row w g j cur e hg
theorem Row.set (h : Row w g e k c L) (j : Nat) (x : Int) : Row (w.setCell ⟨g, j, none⟩ (.int k x)) g e k c (L.set j x) := by
  obtain ⟨cur, hg, h1, h2, h3, ht⟩ := h
  refine ⟨cur.setIfInBounds j (.int k x), heap_setCell_same w g j cur e _ hg, by simpa using h1, h2, by simpa using h3, ?_⟩
  rw [Array.toList_setIfInBounds, List.length_set, List.take_set, ht]
  simp [kv, List.map_set]
theorem Row.below (h : Row w g e k c L) (hb : Below B w w') (hg : g < B) : Row w' g e k c L := by
  obtain ⟨cur, h0, rest⟩ := h
  exact ⟨cur, (hb.block g hg).trans h0, rest⟩
theorem Row.own (h : Row w g e k c L) (hB : B ≤ g) : Own w B e k (.slice (some ⟨g, 0, none⟩) L.length c) L := by
  obtain ⟨cur, hg, h1, h2, h3, ht⟩ := h
  exact ⟨by simp [kv], .inr ⟨g, c, cur, rfl, hB, hg, h1, h2, by omega, by rw [Nat.mul_one]; exact ht⟩⟩
theorem Own.row (h : Own w B e k (.slice A n c) L) (hn : 0 < L.length) : ∃ g, A = some ⟨g, 0, none⟩ ∧ B ≤ g ∧ n = L.length ∧ Row w g e k c L := by
  rcases h.2 with ⟨_, h0⟩ | ⟨g, cap, cur, hv, hB, hg, h1, h2, h3, h4⟩
  · omega
  · simp only [Value.slice.injEq] at hv
    obtain ⟨rfl, rfl, rfl⟩ := hv
    exact ⟨g, rfl, hB, rfl, cur, hg, h1, h2, by omega, by rw [Nat.mul_one] at h4; exact h4⟩
end
/-- A row that the call owns, in a block from lo on and below hi. -/
def Held (w : World) (lo hi : Nat) (e : TypeId) (k : IntKind) (v : Value) (L : List Int) : Prop := Own w lo e k v L ∧ (∀ g, v.ownBlock = some g → g < hi) ∧ hi ≤ w.heap.size
section
variable {w w' : World} {lo hi lo' hi' C : Nat} {e e' : TypeId} {k k' : IntKind} {v v' : Value} {L L' : List Int} {A : Option Addr} {n c : Nat}
theorem Own.cap (h : Own w lo e k (.slice A n c) L) : L.length ≤ c := by
  obtain ⟨A', c', hv, _, h1⟩ := h.form
  simp only [Value.slice.injEq] at hv
  omega
theorem Own.held (h : Own w lo e k v L) : Held w lo w.heap.size e k v L := ⟨h, fun g hg => (World.ownsRow.lt h g hg).2, Nat.le_refl _⟩
theorem Held.below (h : Held w lo hi e k v L) (hb : Below C w w') (hC : hi ≤ C) : Held w' lo hi e k v L :=
  ⟨h.1.below hb fun g hg => Nat.lt_of_lt_of_le (h.2.1 g hg) hC, h.2.1, Nat.le_trans h.2.2 hb.size⟩
theorem Held.belowAll (h : Held w lo hi e k v L) (hb : Below w.heap.size w w') : Held w' lo hi e k v L := h.below hb h.2.2
/-- Another row is written. -/
theorem Held.kept (h : Held w lo hi e k v L) (h' : Held w lo' hi' e' k' v' L') (hd : hi ≤ lo' ∨ hi' ≤ lo) (hg : w.grownBy w' v'.ownBlock) : Held w' lo hi e k v L := by
  refine ⟨h.1.kept hg ?_, h.2.1, Nat.le_trans h.2.2 hg.size⟩
  match hv : v.ownBlock with
  | none => exact .inl rfl
  | some g =>
    refine .inr fun he => ?_
    have a1 := (World.ownsRow.lt h.1 g hv).1
    have a2 := h.2.1 g hv
    have b1 := (World.ownsRow.lt h'.1 g he.symm).1
    have b2 := h'.2.1 g he.symm
    omega
theorem Held.sees (h : Held w lo hi e k (.slice A n c) L) : Sees w hi k A L := h.1.seesB h.2.1
theorem Held.seesAll (h : Held w lo hi e k (.slice A n c) L) : Sees w w.heap.size k A L := h.1.sees
theorem below_mark {w0 w w' : World} {B : Nat} (hb : Below B w0 w) (h : Held w lo hi e k v L) (hB : B ≤ lo) (hg : w.grownBy w' v.ownBlock) (hBw : B ≤ w.heap.size) : Below B w0 w' :=
  hb.grown hg hBw fun g hg' => Nat.le_trans hB (World.ownsRow.lt h.1 g hg').1
end
/-- A contract that leaves the world alone, in 'Below''s words. -/
theorem bel_eq {P : Program} {f : FuncId} {args : Array Value} {w : World} {X : Ending} (h : Calls P f args w fun e w' => e = X ∧ w = w') : Calls P f args w fun e w' => e = X ∧ Below w.heap.size w w' :=
  h.mono fun e w' ⟨h1, h2⟩ => ⟨h1, by subst h2; exact Below.refl _ _⟩
/-- What has been laid so far: the first j entries are f's. -/
def Filled (f : Nat → Option Int) (j : Nat) (L : List Int) : Prop := ∀ i, i < j → L[i]? = f i
theorem Filled.zero (f : Nat → Option Int) (L : List Int) : Filled f 0 L := fun i h => by omega
theorem Filled.set {f : Nat → Option Int} {j : Nat} {L : List Int} {x : Int} (h : Filled f j L) (hj : j < L.length) (hx : f j = some x) : Filled f (j + 1) (L.set j x) := fun i hi => by
  rw [List.getElem?_set]
  split
  · next e => subst e; simp [hx]
  · exact h i (by omega)
theorem Filled.done {f : Nat → Option Int} {L l : List Int} (h : Filled f L.length L) (hl : l.length = L.length) (hf : ∀ i, i < l.length → l[i]? = f i) : L = l := by
  apply List.ext_getElem?
  intro i
  by_cases hi : i < L.length
  · rw [h i hi, hf i (by omega)]
  · rw [List.getElem?_eq_none (by omega), List.getElem?_eq_none (by omega)]
section
variable {P : Program} (w : World)
/-- make of n zero elements: a row of the call's own, at the heap's end. -/
theorem wpList_make_row {ops : Array Oper} {rest : List Oper} {o : Oper} {a : Act} {Q : Exit → Act → World → Prop}
    (hg : o.guard = none) (l c : Operand) (t : TypeId) (hop : o.op = Op.makeSlice t l c)
    (e : TypeId) (k : IntKind) (i : TypeInfo) (bytes : Nat) (h1 : P.underlying t = some (.slice e)) (h2 : P.info? e = some i) (h3 : i.zero = some (.int k 0)) (h4 : i.size = 1) (h5 : i.bytes = bytes) (h8 : bytes ≤ 8)
    (kl kc : IntKind) (n : Nat) (hl : a.eval l = .int kl (n : Int)) (hc : a.eval c = .int kc (n : Int)) (hn : n ≤ 17592186044416)
    (hK : ∀ w', Row w' w.heap.size e k n (List.replicate n 0) → Below w.heap.size w w' → wpList P ops Q rest (a.put o.dst (.slice (some ⟨w.heap.size, 0, none⟩) n n)) w') :
    wpList P ops Q (o :: rest) a w := by
  refine wpList_make_full w hg l c t hop w.heap.size e i _ 1 h1 h2 h3 h4 kl kc _ _ n hl hc rfl rfl (by rw [h5]; exact Nat.le_trans (Nat.mul_le_mul h8 hn) (by decide)) (by unfold maxLen; omega) (Nat.le_refl _) fun w' hown hgr => ?_
  refine hK w' ?_ ((Below.refl _ _).grown hgr (Nat.le_refl _) (fun k hk => by cases hk))
  have e1 : (madeCells (Value.int k 0).cells (n * 1)).toList = kv k (List.replicate n 0) := by
    rw [Nat.mul_one, show (Value.int k 0).cells = #[.int k 0] from rfl, toList_madeCells_one]; simp [kv]
  rw [e1] at hown
  have h : Own w' w.heap.size e k (.slice (some ⟨w.heap.size, 0, none⟩) n n) (List.replicate n 0) := by unfold Own; rw [List.length_replicate]; exact hown
  rcases h.2 with ⟨hv, _⟩ | ⟨g, cap, cur, hv, _, hg, q1, q2, q3, q4⟩
  · cases hv
  · simp only [Value.slice.injEq, Option.some.injEq, Addr.mk.injEq, and_true] at hv
    obtain ⟨rfl, _, rfl⟩ := hv
    exact ⟨cur, hg, q1, q2, by omega, by rw [Nat.mul_one] at q4; exact q4⟩
end
theorem make8 (w : World) {ops : Array Oper} {rest : List Oper} {o : Oper} {a : Act} {Q : Exit → Act → World → Prop}
    (hg : o.guard = none) (l c : Operand) (hop : o.op = Op.makeSlice 22 l c) (kl kc : IntKind) (n : Nat) (hl : a.eval l = .int kl (n : Int)) (hc : a.eval c = .int kc (n : Int)) (hn : n ≤ 17592186044416)
    (hK : ∀ w', Row w' w.heap.size 5 .u8 n (List.replicate n 0) → Below w.heap.size w w' → wpList Tryz.prog ops Q rest (a.put o.dst (.slice (some ⟨w.heap.size, 0, none⟩) n n)) w') :
    wpList Tryz.prog ops Q (o :: rest) a w := by
  obtain ⟨i, hi, hz, h1, h2⟩ := info_parts info_u8
  exact wpList_make_row w hg l c _ hop _ .u8 i 1 Tryz.underlying22 hi hz h1 h2 (by decide) kl kc n hl hc hn hK
theorem make64 (w : World) {ops : Array Oper} {rest : List Oper} {o : Oper} {a : Act} {Q : Exit → Act → World → Prop}
    (hg : o.guard = none) (l c : Operand) (hop : o.op = Op.makeSlice 163 l c) (kl kc : IntKind) (n : Nat) (hl : a.eval l = .int kl (n : Int)) (hc : a.eval c = .int kc (n : Int)) (hn : n ≤ 17592186044416)
    (hK : ∀ w', Row w' w.heap.size 3 .i64 n (List.replicate n 0) → Below w.heap.size w w' → wpList Tryz.prog ops Q rest (a.put o.dst (.slice (some ⟨w.heap.size, 0, none⟩) n n)) w') :
    wpList Tryz.prog ops Q (o :: rest) a w := by
  obtain ⟨i, hi, hz, h1, h2⟩ := info_parts info_int
  exact wpList_make_row w hg l c _ hop _ .i64 i 8 Tryz.underlying163 hi hz h1 h2 (by decide) kl kc n hl hc hn hK
/-- make([]int, 0, n). -/
theorem make64z (w : World) {ops : Array Oper} {rest : List Oper} {o : Oper} {a : Act} {Q : Exit → Act → World → Prop}
    (hg : o.guard = none) (l c : Operand) (hop : o.op = Op.makeSlice 163 l c) (kl kc : IntKind) (C : Int) (n : Nat) (hl : a.eval l = .int kl 0) (hc : a.eval c = .int kc C) (hC : C = (n : Int)) (hn : n ≤ 17592186044416)
    (hK : ∀ w', Own w' w.heap.size 3 .i64 (.slice (some ⟨w.heap.size, 0, none⟩) 0 n) [] → Below w.heap.size w w' → wpList Tryz.prog ops Q rest (a.put o.dst (.slice (some ⟨w.heap.size, 0, none⟩) 0 n)) w') :
    wpList Tryz.prog ops Q (o :: rest) a w := by
  obtain ⟨i, hi, hz, h1, h2⟩ := info_parts info_int
  exact wpList_make_own w hg l c _ hop w.heap.size 3 i _ 1 Tryz.underlying163 hi hz h1 kl kc C n hl hc hC (by rw [h2]; omega) (by unfold maxLen; omega) (Nat.le_refl _) fun w' hown hgr =>
    hK w' hown ((Below.refl _ _).grown hgr (Nat.le_refl _) (fun k hk => by cases hk))
/-- A slice of integers that came in: nil, or a row of cells. -/
def IsRow (k : IntKind) (w : World) (a : Option Addr) (len cap : Nat) (zs : List Int) : Prop :=
  (a = none ∧ len = 0 ∧ cap = 0 ∧ zs = []) ∨
  ∃ x, a = some x ∧ len ≤ cap ∧ cap ≤ maxLen ∧ zs.length = cap ∧ (∀ i, i < zs.length → w.cell? (x.add i) = some (.int k (zs.getD i 0))) ∧ ∀ n ∈ zs, (Lit.int k n).wf = true
/-- A slice that came in, as a list. -/
theorem row_sees {k : IntKind} {w : World} {a : Option Addr} {len cap : Nat} {zs : List Int} (h : IsRow k w a len cap zs) :
    ∃ l : List Int, l.length = len ∧ Sees w w.heap.size k a l ∧ len ≤ 9223372036854775807 ∧ ∀ n ∈ l, (Lit.int k n).wf = true := by
  rcases h with ⟨rfl, rfl, rfl, rfl⟩ | ⟨⟨b, off, spot⟩, rfl, hl, hm, hz, hcell, hwz⟩
  · exact ⟨[], rfl, Sees.nil, by omega, fun _ h => by cases h⟩
  · unfold maxLen at hm
    refine ⟨zs.take len, by simp; omega, fun j x hj => ?_, by omega, fun n hn => hwz n (List.mem_of_mem_take hn)⟩
    rw [List.getElem?_take] at hj
    split at hj
    · have hlt : j < zs.length := (List.getElem?_eq_some_iff.1 hj).1
      have hc := hcell j hlt
      have hspot : spot = none := by
        have h0 := hcell 0 (by omega)
        simpa [Addr.add] using World.cell?_spot h0
      subst hspot
      rw [add_none, List.getD_eq_getElem?_getD, hj] at hc
      exact ⟨b, off, rfl, World.block_lt_of_cell? w _ hc, hc⟩
    · cases hj
theorem bytes_wf {l : List Int} (h : ∀ n ∈ l, (Lit.int .u8 n).wf = true) : ∀ x ∈ l, 0 ≤ x ∧ x ≤ 255 := fun x hx => by
  have hw := h x hx
  have e1 : IntKind.u8.min = 0 := rfl
  have e2 : IntKind.u8.max = 255 := rfl
  simp [Lit.wf, e1, e2] at hw
  exact hw
theorem ints_wf {l : List Int} (h : ∀ n ∈ l, (Lit.int .i64 n).wf = true) : ∀ x ∈ l, -9223372036854775808 ≤ x ∧ x ≤ 9223372036854775807 := fun x hx => by
  have hw := h x hx
  have e1 : IntKind.i64.min = -9223372036854775808 := rfl
  have e2 : IntKind.i64.max = 9223372036854775807 := rfl
  simp [Lit.wf, e1, e2] at hw
  exact hw
theorem off_wf {n : Int} (h : (Lit.int .i64 n).wf = true) : -9223372036854775808 ≤ n ∧ n ≤ 9223372036854775807 := by
  have e1 : IntKind.i64.min = -9223372036854775808 := rfl
  have e2 : IntKind.i64.max = 9223372036854775807 := rfl
  simp [Lit.wf, e1, e2] at h
  exact h
end Go.Proofs.YtbnjaaegbmhopaaGreatDoor
