/- Slices of points that the call owns, and append to them. -/
import Derived.Test.YtbnjaaegbmhopaaGreatDoorPoint2
namespace Go.Proofs.YtbnjaaegbmhopaaGreatDoor
open Go.RowKit
set_option linter.unusedVariables false

theorem flatP_len (l : List (Int × Int)) : (flatP l).length = l.length * 2 := by
  induction l with
  | nil => rfl
  | cons p r ih => simp [flatP, ih]; omega
theorem flatP_app (l m : List (Int × Int)) : flatP (l ++ m) = flatP l ++ flatP m := by
  induction l with
  | nil => rfl
  | cons p r ih => simp [flatP, ih]
theorem flatP_one (l : List (Int × Int)) : ∀ u ∈ flatP l, u.oneCell' = true := by
  induction l with
  | nil => intro u h; cases h
  | cons p r ih =>
    intro u h
    simp only [flatP, List.mem_cons] at h
    rcases h with rfl | rfl | h
    · rfl
    · rfl
    · exact ih u h
theorem flatP_get {l : List (Int × Int)} {j : Nat} {u : Value} (h : (flatP l)[j]? = some u) : ∃ (i : Nat) (x y : Int), l[i]? = some (x, y) ∧ (j = i * 2 ∧ u = .int .i64 x ∨ j = i * 2 + 1 ∧ u = .int .i64 y) := by
  induction l generalizing j with
  | nil => simp [flatP] at h
  | cons p r ih =>
    match j, h with
    | 0, h => simp [flatP] at h; exact ⟨0, p.1, p.2, rfl, .inl ⟨rfl, h.symm⟩⟩
    | 1, h => simp [flatP] at h; exact ⟨0, p.1, p.2, rfl, .inr ⟨rfl, h.symm⟩⟩
    | j + 2, h =>
      obtain ⟨i, x, y, h1, h2⟩ := ih (j := j) (by simpa [flatP] using h)
      exact ⟨i + 1, x, y, by simpa using h1, h2.imp (fun h => ⟨by omega, h.2⟩) (fun h => ⟨by omega, h.2⟩)⟩
/-- A row of points that the call owns, from block B on. -/
def OwnP (w : World) (B : Nat) (e : TypeId) (v : Value) (l : List (Int × Int)) : Prop := w.ownsRow B e 2 v l.length (flatP l)
section
variable {w w' : World} {B C : Nat} {e : TypeId} {v : Value} {A : Option Addr} {l : List (Int × Int)} {n c : Nat}
theorem OwnP.form (h : OwnP w B e v l) : ∃ A c, v = .slice A l.length c ∧ c ≤ maxLen ∧ l.length ≤ c := by
  rcases h.2 with ⟨rfl, h0⟩ | ⟨g, cap, cur, rfl, _, _, h1, h2, _⟩
  · exact ⟨none, 0, by rw [h0], by simp, by omega⟩
  · exact ⟨_, _, rfl, h2, h1⟩
theorem OwnP.sees (h : OwnP w B e (.slice A n c) l) : SeesP w w.heap.size A l := fun j x y hj => by
  have hl : j < l.length := (List.getElem?_eq_some_iff.1 hj).1
  rcases h.2 with ⟨_, h0⟩ | ⟨g, cap, cur, hv, _, hg, h1, h2, h3, h4⟩
  · omega
  · simp only [Value.slice.injEq] at hv
    obtain ⟨rfl, rfl, rfl⟩ := hv
    obtain ⟨c1, c2⟩ := flatP_at hj
    have at_ (i : Nat) (u : Value) (hi : i < l.length * 2) (hu : (flatP l)[i]? = some u) : w.cell? ⟨g, i, none⟩ = some u := by
      rw [← h4, List.getElem?_take, if_pos hi] at hu
      rw [cell_of_row w g i cur e (0, 0) hg, ← hu]; simp
    exact ⟨g, 0, rfl, (Array.getElem?_eq_some_iff.1 hg).1, by rw [Nat.zero_add]; exact at_ _ _ (by omega) c1, by rw [Nat.zero_add]; exact at_ _ _ (by omega) c2⟩
theorem OwnP.lt (h : OwnP w B e v l) : ∀ g, v.ownBlock = some g → B ≤ g ∧ g < w.heap.size := World.ownsRow.lt h
theorem OwnP.below (h : OwnP w B e v l) (hb : Below C w w') (hC : ∀ g, v.ownBlock = some g → g < C) : OwnP w' B e v l := by
  refine ⟨h.1, ?_⟩
  rcases h.2 with hn | ⟨g, cap, cur, rfl, hB, hg, rest⟩
  · exact .inl hn
  · exact .inr ⟨g, cap, cur, rfl, hB, (hb.block g (hC g rfl)).trans hg, rest⟩
theorem OwnP.belowAll (h : OwnP w B e v l) (hb : Below w.heap.size w w') : OwnP w' B e v l := h.below hb fun g hg => (h.lt g hg).2
theorem OwnP.drew (h : OwnP w B e v l) : OwnP w.drew B e v l := h
theorem OwnP.alloc (h : OwnP w B e v l) (o : Obj) : OwnP (w.alloc o) B e v l := World.ownsRow.alloc h o
theorem OwnP.lit (w : World) (B : Nat) (e : TypeId) (hB : B ≤ w.heap.size) : OwnP (w.alloc (.cells #[] e)) B e (.slice (some ⟨w.heap.size, 0, none⟩) 0 0) [] :=
  World.ownsRow_lit (base := B) (e := e) (size := 2) w #[] 0 hB (by simp) rfl
theorem OwnP.litAt (w : World) (B : Nat) (e : TypeId) (b : Nat) (hb : b = w.heap.size) (hB : B ≤ w.heap.size) : OwnP (w.alloc (.cells #[] e)) B e (.slice (some ⟨b, 0, none⟩) 0 0) [] := by
  subst hb; exact OwnP.lit w B e hB
theorem OwnP.nil (w : World) (B : Nat) (e : TypeId) : OwnP w B e (.slice none 0 0) [] := World.ownsRow_nil _ _ _ _
theorem OwnP.mono (h : OwnP w B e v l) (hC : C ≤ B) : OwnP w C e v l := by
  refine ⟨h.1, ?_⟩
  rcases h.2 with hn | ⟨g, cap, cur, rfl, hB, rest⟩
  · exact .inl hn
  · exact .inr ⟨g, cap, cur, rfl, by omega, rest⟩
end
theorem info_pt : (Tryz.prog.info? 33).map (fun i => (i.zero, i.size, i.bytes)) = some (some (PtV 0 0), 2, 16) := by kernel_rfl
/-- append(v, x...): v the call's own points, x whatever shows l2. -/
theorem run_appP (w : World) (ty : TypeId) (base : Nat) (v : Value) (l : List (Int × Int)) (hown : OwnP w base 33 v l)
    (B : Nat) (b off : Nat) (m c : Nat) (l2 : List (Int × Int)) (hm : m = l2.length) (hs : SeesP w B (some ⟨b, off, none⟩) l2) (h63 : l.length + l2.length ≤ 8796093022208) (hbase : base ≤ w.heap.size) :
    ∃ v' w', (Builtin.append_ #[24, 24] ty #[v, .slice (some ⟨b, off, none⟩) m c]).run Tryz.prog w = .ok v' w' ∧ OwnP w' base 33 v' (l ++ l2) ∧ w.grownBy w' v.ownBlock ∧ (v'.ownBlock = v.ownBlock ∨ v'.ownBlock = some w.heap.size) := by
  subst hm
  obtain ⟨i, hi, hz, h1, h2⟩ := info_parts info_pt
  have hc : ∀ j u, (flatP l2)[j]? = some u → w.cell? ((⟨b, off, none⟩ : Addr).add j) = some u := fun j u hu => by
    obtain ⟨k, x, y, hk, hj⟩ := flatP_get hu
    obtain ⟨b', off', hA, _, c1, c2⟩ := hs k x y hk
    simp only [Option.some.injEq, Addr.mk.injEq, and_true] at hA
    obtain ⟨rfl, rfl⟩ := hA
    rw [add_none]
    rcases hj with ⟨rfl, rfl⟩ | ⟨rfl, rfl⟩
    · exact c1
    · rw [← Nat.add_assoc]; exact c2
  obtain ⟨v', w', hr, g1, g2, _, g3⟩ := run_append_own_at (P := Tryz.prog) w base 24 ty 33 i _ 2 16 Tryz.underlying24 hi hz h1 h2 rfl (by decide) v l.length (flatP l) hown ⟨b, off, none⟩ l2.length c (flatP l2) (flatP_len l2) hc (flatP_one l2)
    (by unfold maxLen; omega) (by omega) hbase
  exact ⟨v', w', hr, by unfold OwnP; rw [flatP_app, List.length_append]; exact g1, g2, g3⟩
theorem appP (w : World) {ops : Array Oper} {rest : List Oper} {o : Oper} {a : Act} {Q : Exit → Act → World → Prop} (hgd : o.guard = none) (s x : Operand)
    (ho : o.op = .call { callee := .builtin .append, args := #[s, x], argTypes := #[24, 24] })
    (base : Nat) (v : Value) (l : List (Int × Int)) (hv : a.eval s = v) (hown : OwnP w base 33 v l)
    (B b off m c : Nat) (l2 : List (Int × Int)) (hx : a.eval x = .slice (some ⟨b, off, none⟩) m c) (hm : m = l2.length) (hs : SeesP w B (some ⟨b, off, none⟩) l2) (h63 : l.length + l2.length ≤ 8796093022208) (hbase : base ≤ w.heap.size)
    (h : ∀ A' c' L w', Hid (L = l ++ l2) → OwnP w' base 33 (.slice A' L.length c') L → w.grownBy w' v.ownBlock → ((Value.slice A' L.length c').ownBlock = v.ownBlock ∨ (Value.slice A' L.length c').ownBlock = some w.heap.size) → wpList Tryz.prog ops Q rest (a.put o.dst (.slice A' L.length c')) w') :
    wpList Tryz.prog ops Q (o :: rest) a w :=
  wpList_plain hgd fun K hK => by
    obtain ⟨v', w', hrun, h2, h3, h4⟩ := run_appP w o.type base v l hown B b off m c l2 hm hs h63 hbase
    unfold Oper.wp execOp
    simp only [ho, resolve, invoke, builtin, Sem.run_bind, Sem.run_pure, Result.andThen_ok, List.map_toArray, List.map_cons, List.map_nil, hv, hx, hrun]
    obtain ⟨A', c', rfl, _, _⟩ := h2.form
    exact hK _ _ (h A' c' _ w' (Lib.hid rfl) h2 h3 h4)
end Go.Proofs.YtbnjaaegbmhopaaGreatDoor
