/- Slices of slices in memory: what they show, and those that the call owns. -/
import Derived.Test.YtbnjaaegbmhopaaEl
namespace Go.Proofs.Ytbnjaaegbmhopaa
open Go.RowKit
set_option linter.unusedVariables false

/-- A slice as a cell. -/
abbrev LsC := Option Addr × Nat × Nat
def slC (x : LsC) : Value := .slice x.1 x.2.1 x.2.2
def encLs (x : LsC) : List Value := [slC x]
theorem elLs : IsEl 1 encLs := ⟨by decide, fun x => ⟨rfl, fun u hu => by simp only [encLs, List.mem_cons, List.not_mem_nil, or_false] at hu; subst hu; rfl⟩⟩
/-- What one of the slices shows, below block B. -/
def DeepLs {α : Type} (n : Nat) (enc : α → List Value) (w : World) (B : Nat) (x : LsC) (p : List α) : Prop := x.2.1 = p.length ∧ SeesE n enc w B x.1 p ∧ p.length ≤ x.2.2 ∧ (x.2.2 : Int) ≤ 9223372036854775807
/-- What a slice of slices shows, below block B. -/
def SeesLs {α : Type} (n : Nat) (enc : α → List Value) (w : World) (B : Nat) (A : Option Addr) (l : List (List α)) : Prop :=
  ∃ xs : List LsC, xs.length = l.length ∧ SeesE 1 encLs w B A xs ∧ ∀ (j : Nat) x p, xs[j]? = some x → l[j]? = some p → DeepLs n enc w B x p
/-- No two of the rows in one block. -/
def ApartLs (xs : List LsC) : Prop := ∀ (i j : Nat) x y b, i ≠ j → xs[i]? = some x → xs[j]? = some y → (slC x).ownBlock = some b → (slC y).ownBlock ≠ some b
/-- The rows of the slices that lie in v. -/
def RowsLs {α : Type} (n : Nat) (enc : α → List Value) (T : TypeId) (w : World) (B : Nat) (v : Value) (xs : List LsC) (l : List (List α)) : Prop :=
  xs.length = l.length ∧ ApartLs xs ∧ ∀ (j : Nat) x p, xs[j]? = some x → l[j]? = some p → OwnE n enc w B T (slC x) p ∧ ∀ b, (slC x).ownBlock = some b → v.ownBlock ≠ some b
/-- The call owns a slice of slices, from block B on (T: the inner elements' type, U: the slices'). -/
def OwnLs {α : Type} (n : Nat) (enc : α → List Value) (T U : TypeId) (w : World) (B : Nat) (v : Value) (l : List (List α)) : Prop := ∃ xs, OwnE 1 encLs w B U v xs ∧ RowsLs n enc T w B v xs l
section
variable {α : Type} {n : Nat} {enc : α → List Value} {T U : TypeId} {w w' w0 : World} {B B' C : Nat} {v v' : Value} {A : Option Addr} {m c : Nat} {xs ys : List LsC} {l l2 : List (List α)} {x : LsC} {p : List α}
theorem DeepLs.below (h : DeepLs n enc w B x p) (hb : Below B w w') : DeepLs n enc w' B x p := ⟨h.1, h.2.1.below hb, h.2.2⟩
theorem DeepLs.mono (h : DeepLs n enc w B x p) (hB : B ≤ B') : DeepLs n enc w B' x p := ⟨h.1, h.2.1.mono hB, h.2.2⟩
theorem SeesLs.below (h : SeesLs n enc w B A l) (hb : Below B w w') : SeesLs n enc w' B A l := by
  obtain ⟨xs, h1, h2, h3⟩ := h
  exact ⟨xs, h1, h2.below hb, fun j x f hx hf => (h3 j x f hx hf).below hb⟩
theorem SeesLs.mono (h : SeesLs n enc w B A l) (hB : B ≤ B') : SeesLs n enc w B' A l := by
  obtain ⟨xs, h1, h2, h3⟩ := h
  exact ⟨xs, h1, h2.mono hB, fun j x f hx hf => (h3 j x f hx hf).mono hB⟩
theorem SeesLs.belowAll (h : SeesLs n enc w w.heap.size A l) (hb : Below w.heap.size w w') : SeesLs n enc w' w'.heap.size A l := (h.below hb).mono hb.size
theorem SeesLs.nil : SeesLs n enc w B A ([] : List (List α)) := ⟨[], rfl, SeesE.nil, fun j x f hx => by simp at hx⟩
/-- One of them: where its cell lies, and what it shows. -/
theorem SeesLs.at_ (h : SeesLs n enc w B A l) {j : Nat} {p : List α} (hf : l[j]? = some p) :
    ∃ b off A' c, A = some ⟨b, off, none⟩ ∧ b < B ∧ SeesE n enc w B A' p ∧ (p.length ≤ c ∧ (c : Int) ≤ 9223372036854775807) ∧ w.cell? ⟨b, off + j, none⟩ = some (.slice A' p.length c) := by
  obtain ⟨xs, h1, h2, h3⟩ := h
  have hj : j < l.length := (List.getElem?_eq_some_iff.1 hf).1
  obtain ⟨⟨A', m, c⟩, hx⟩ : ∃ x, xs[j]? = some x := ⟨_, List.getElem?_eq_getElem (by omega)⟩
  obtain ⟨b, off, e, hb, hc⟩ := h2 j _ hx
  obtain ⟨e1, hs, hcap⟩ := h3 j _ _ hx hf
  dsimp only at e1 hs hcap
  subst e1
  refine ⟨b, off, A', c, e, hb, hs, hcap, ?_⟩
  have := hc 0 _ rfl
  simpa [slC] using this
theorem RowsLs.len (h : RowsLs n enc T w B v xs l) : xs.length = l.length := h.1
theorem OwnLs.form (h : OwnLs n enc T U w B v l) : ∃ A c, v = .slice A l.length c ∧ c ≤ maxLen ∧ l.length ≤ c := by
  obtain ⟨xs, h1, h2⟩ := h
  obtain ⟨A, c, hv, hc, hl⟩ := h1.form
  rw [h2.1] at hv hl
  exact ⟨A, c, hv, hc, hl⟩
theorem OwnLs.lt (h : OwnLs n enc T U w B v l) : ∀ g, v.ownBlock = some g → B ≤ g ∧ g < w.heap.size := by
  obtain ⟨xs, h1, _⟩ := h; exact h1.lt
theorem capsLs {α : Type} {n : Nat} {enc : α → List Value} {e : TypeId} {L : List α} (h : OwnE n enc w B e (.slice A m c) L) : m = L.length ∧ L.length ≤ c ∧ (c : Int) ≤ 9223372036854775807 := by
  obtain ⟨A', c', hv, hc, hl⟩ := h.form
  simp only [Value.slice.injEq] at hv
  unfold maxLen at hc
  omega
theorem OwnLs.caps (h : OwnLs n enc T U w B (.slice A m c) l) : l.length ≤ c ∧ (c : Int) ≤ 9223372036854775807 := by
  obtain ⟨xs, h1, h2⟩ := h
  have := capsLs h1
  rw [← h2.1]
  exact this.2
theorem OwnLs.sees (hE : IsEl n enc) (h : OwnLs n enc T U w B (.slice A m c) l) : SeesLs n enc w w.heap.size A l := by
  obtain ⟨xs, h1, h2, h3, h4⟩ := h
  refine ⟨xs, h2, h1.sees elLs, fun j x f hx hf => ?_⟩
  obtain ⟨ho, _⟩ := h4 j x f hx hf
  have hc := capsLs ho
  exact ⟨hc.1, ho.sees hE, hc.2⟩
theorem RowsLs.belowAll (h : RowsLs n enc T w B v xs l) (hb : Below w.heap.size w w') : RowsLs n enc T w' B v xs l :=
  ⟨h.1, h.2.1, fun j x f hx hf => by obtain ⟨h2, h3⟩ := h.2.2 j x f hx hf; exact ⟨h2.belowAll hb, h3⟩⟩
theorem OwnLs.belowAll (h : OwnLs n enc T U w B v l) (hb : Below w.heap.size w w') : OwnLs n enc T U w' B v l := by
  obtain ⟨xs, h1, h2⟩ := h
  exact ⟨xs, h1.belowAll hb, h2.belowAll hb⟩
theorem OwnLs.alloc (h : OwnLs n enc T U w B v l) (o : Obj) : OwnLs n enc T U (w.alloc o) B v l := h.belowAll ((Below.refl _ _).alloc (Nat.le_refl _) o)
theorem OwnLs.drew (h : OwnLs n enc T U w B v l) : OwnLs n enc T U w.drew B v l := h.belowAll (Below.refl _ _).drew
theorem RowsLs.mono (h : RowsLs n enc T w B v xs l) (hC : C ≤ B) : RowsLs n enc T w C v xs l :=
  ⟨h.1, h.2.1, fun j x f hx hf => by obtain ⟨h2, h3⟩ := h.2.2 j x f hx hf; exact ⟨h2.mono hC, h3⟩⟩
theorem OwnLs.mono (h : OwnLs n enc T U w B v l) (hC : C ≤ B) : OwnLs n enc T U w C v l := by
  obtain ⟨xs, h1, h2⟩ := h
  exact ⟨xs, h1.mono hC, h2.mono hC⟩
theorem OwnLs.lit (w : World) (B : Nat) (hB : B ≤ w.heap.size) : OwnLs n enc T U (w.alloc (.cells #[] U)) B (.slice (some ⟨w.heap.size, 0, none⟩) 0 0) ([] : List (List α)) :=
  ⟨[], OwnE.lit w B _ hB, rfl, fun i j x y b _ hx => by simp at hx, fun j x f hx => by simp at hx⟩
/-- The rows behind the row of the slice: it grows, and they stay. -/
theorem RowsLs.grown (h : RowsLs n enc T w B v xs l) (hg : w.grownBy w' v.ownBlock) (hv : v'.ownBlock = v.ownBlock ∨ v'.ownBlock = some w.heap.size) : RowsLs n enc T w' B v' xs l := by
  refine ⟨h.1, h.2.1, fun j x f hx hf => ?_⟩
  obtain ⟨h2, h3⟩ := h.2.2 j x f hx hf
  refine ⟨h2.kept hg ?_, fun b hb he => ?_⟩
  · match hs : (slC x).ownBlock with
    | none => exact .inl rfl
    | some b => exact .inr fun e => h3 b hs e.symm
  · rcases hv with hv | hv
    · rw [hv] at he; exact h3 b hb he
    · rw [hv] at he
      have := (h2.lt b hb).2
      simp only [Option.some.injEq] at he
      omega
/-- Two lists of slices side by side. -/
theorem RowsLs.app (h : RowsLs n enc T w B v xs l) (h2 : RowsLs n enc T w B v ys l2) (hs : ∀ (i j : Nat) x y b, xs[i]? = some x → ys[j]? = some y → (slC x).ownBlock = some b → (slC y).ownBlock ≠ some b) : RowsLs n enc T w B v (xs ++ ys) (l ++ l2) := by
  refine ⟨by rw [List.length_append, List.length_append, h.1, h2.1], fun i j x y b hij hx hy hb => ?_, fun j x f hx hf => ?_⟩
  · rw [List.getElem?_append] at hx hy
    split at hx
    · split at hy
      · exact h.2.1 i j x y b hij hx hy hb
      · exact hs _ _ x y b hx hy hb
    · split at hy
      · intro e
        exact hs _ _ y x b hy hx e hb
      · exact h2.2.1 _ _ x y b (by omega) hx hy hb
  · rw [List.getElem?_append] at hx hf
    rw [h.1] at hx
    split at hx
    · next hlt => rw [if_pos hlt] at hf; exact h.2.2 _ _ _ hx hf
    · next hlt => rw [if_neg hlt] at hf; exact h2.2.2 _ _ _ hx hf
/-- One slice in new memory. -/
theorem rowsLs_one (ho : OwnE n enc w B T (slC x) p) (hb : ∀ b, (slC x).ownBlock = some b → C ≤ b) (hv : ∀ g, v.ownBlock = some g → g < C) : RowsLs n enc T w B v [x] [p] := by
  refine ⟨rfl, fun i j x y b hij hx hy => ?_, fun j x' f' hx hf => ?_⟩
  · have h1 := (List.getElem?_eq_some_iff.1 hx).1
    have h2 := (List.getElem?_eq_some_iff.1 hy).1
    simp at h1 h2
    omega
  · match j, hx, hf with
    | 0, hx, hf =>
      simp at hx hf
      subst hx hf
      refine ⟨ho, fun b h1 h2 => ?_⟩
      have := hb b h1
      have := hv b h2
      omega
    | j + 1, hx, hf => simp at hx
/-- What was ahead of C, and what lies behind it. -/
theorem rowsLs_sep (h : RowsLs n enc T w0 B v xs l) (hC : w0.heap.size ≤ C) (hy : ∀ (j : Nat) y b, ys[j]? = some y → (slC y).ownBlock = some b → C ≤ b) :
    ∀ (i j : Nat) x y b, xs[i]? = some x → ys[j]? = some y → (slC x).ownBlock = some b → (slC y).ownBlock ≠ some b := fun i j x y b hx hy' hb he => by
  obtain ⟨f, hf⟩ : ∃ f, l[i]? = some f := ⟨_, List.getElem?_eq_getElem (by rw [← h.1]; exact (List.getElem?_eq_some_iff.1 hx).1)⟩
  obtain ⟨h2, _⟩ := h.2.2 i x f hx hf
  have := (h2.lt b hb).2
  have := hy j y b hy' he
  omega
theorem OwnE.putX {α : Type} {n : Nat} {enc : α → List Value} {e : TypeId} {LL : List α} (h : OwnE n enc w B e v LL) {b : Nat} (hb : v.ownBlock ≠ some b) (i : Nat) (u : Value) : OwnE n enc (w.setCell ⟨b, i, none⟩ u) B e v LL := by
  refine ⟨h.1, ?_⟩
  rcases h.2 with hn | ⟨g, cap, cur, rfl, hB, hg, rest⟩
  · exact .inl hn
  · exact .inr ⟨g, cap, cur, rfl, hB, (Below.heap_setCell _ _ _ _ (by intro e; apply hb; simp [Value.ownBlock]; first | exact e | exact e.symm)).trans hg, rest⟩
theorem RowsLs.putX (h : RowsLs n enc T w B v xs l) {b : Nat} (hv : v.ownBlock = some b) (i : Nat) (u : Value) : RowsLs n enc T (w.setCell ⟨b, i, none⟩ u) B v xs l :=
  ⟨h.1, h.2.1, fun j x f hx hf => by
    obtain ⟨h2, h3⟩ := h.2.2 j x f hx hf
    exact ⟨h2.putX (fun e => h3 b e hv) i u, h3⟩⟩
/-- One slice's cell is written. -/
theorem rowLs_set {g cc j : Nat} {e : TypeId} {L : List LsC} (h : RowE 1 encLs w g e cc L) (hj : j < L.length) (x : LsC) : RowE 1 encLs (w.setCell ⟨g, j, none⟩ (slC x)) g e cc (L.set j x) := by
  obtain ⟨y, hy⟩ : ∃ y, L[j]? = some y := ⟨_, List.getElem?_eq_getElem hj⟩
  have := h.put elLs (k := 0) (x' := x) (v := slC x) hy (by decide) rfl
  simpa using this
theorem rowLs_cell {g cc j : Nat} {e : TypeId} {L : List LsC} (h : RowE 1 encLs w g e cc L) {y : LsC} (hx : L[j]? = some y) : w.cell? ⟨g, j, none⟩ = some (.slice y.1 y.2.1 y.2.2) := by
  have := h.cell elLs hx (k := 0) rfl
  simpa [slC] using this
theorem takeLs_set {α : Type} (xs : List α) (j : Nat) (x : α) (h : j < xs.length) : (xs.set j x).take (j + 1) = xs.take j ++ [x] := by
  have e : (xs.set j x).take j = xs.take j := by
    apply List.ext_getElem?
    intro i
    rw [List.getElem?_take, List.getElem?_take]
    split
    · rw [List.getElem?_set_ne (by omega)]
    · rfl
  rw [List.take_add_one, List.getElem?_set_self h, e]
  rfl
theorem dropLs {α : Type} {l : List α} {j : Nat} {x : α} (h : l[j]? = some x) : l.drop j = x :: l.drop (j + 1) := by
  have hj := (List.getElem?_eq_some_iff.1 h).1
  rw [List.drop_eq_getElem_cons hj]
  congr 1
  exact (List.getElem?_eq_some_iff.1 h).2
theorem takeLs {α : Type} {l : List α} {j : Nat} {x : α} (h : l[j]? = some x) : l.take (j + 1) = l.take j ++ [x] := by
  rw [List.take_add_one, h]; rfl
end
/-- A slice of slices that the call owns, all of it below block hi. -/
def HeldLs {α : Type} (n : Nat) (enc : α → List Value) (T U : TypeId) (w : World) (lo hi : Nat) (v : Value) (l : List (List α)) : Prop :=
  ∃ xs, OwnE 1 encLs w lo U v xs ∧ RowsLs n enc T w lo v xs l ∧ (∀ g, v.ownBlock = some g → g < hi) ∧ (∀ (j : Nat) x b, xs[j]? = some x → (slC x).ownBlock = some b → b < hi) ∧ hi ≤ w.heap.size
section
variable {α : Type} {n : Nat} {enc : α → List Value} {T U : TypeId} {w w' : World} {lo hi p : Nat} {v : Value} {l : List (List α)}
theorem HeldLs.own (h : HeldLs n enc T U w lo hi v l) : OwnLs n enc T U w lo v l := by obtain ⟨xs, h1, h2, _⟩ := h; exact ⟨xs, h1, h2⟩
theorem OwnLs.held (h : OwnLs n enc T U w lo v l) : HeldLs n enc T U w lo w.heap.size v l := by
  obtain ⟨xs, h1, h2⟩ := h
  refine ⟨xs, h1, h2, fun g hg => (h1.lt g hg).2, fun j x b hx hb => ?_, Nat.le_refl _⟩
  obtain ⟨f, hf⟩ : ∃ f, l[j]? = some f := ⟨_, List.getElem?_eq_getElem (by rw [← h2.1]; exact (List.getElem?_eq_some_iff.1 hx).1)⟩
  exact ((h2.2.2 j x f hx hf).1.lt b hb).2
theorem HeldLs.belowAll (h : HeldLs n enc T U w lo hi v l) (hb : Below w.heap.size w w') : HeldLs n enc T U w' lo hi v l := by
  obtain ⟨xs, h1, h2, h3, h4, h5⟩ := h
  exact ⟨xs, h1.belowAll hb, h2.belowAll hb, h3, h4, Nat.le_trans h5 hb.size⟩
theorem RowsLs.keptP {B : Nat} {xs : List LsC} (h : RowsLs n enc T w B v xs l) (hg : w.grownBy w' (some p)) (hp : p < B) : RowsLs n enc T w' B v xs l :=
  ⟨h.1, h.2.1, fun j x f hx hf => by
    obtain ⟨h2, h3⟩ := h.2.2 j x f hx hf
    refine ⟨h2.kept hg ?_, h3⟩
    match hs : (slC x).ownBlock with
    | none => exact .inl rfl
    | some b => exact .inr fun e => by have := (h2.lt b hs).1; have := Option.some.inj e; omega⟩
theorem OwnE.keptP {β : Type} {k : Nat} {en : β → List Value} {B : Nat} {L : List β} (h : OwnE k en w B U v L) (hg : w.grownBy w' (some p)) (hp : p < B) : OwnE k en w' B U v L := by
  refine h.kept hg ?_
  match hs : v.ownBlock with
  | none => exact .inl rfl
  | some b => exact .inr fun e => by have := (h.lt b hs).1; have := Option.some.inj e; omega
/-- A cell ahead of all of it is written (a cursor), new blocks are laid. -/
theorem HeldLs.keptP (h : HeldLs n enc T U w lo hi v l) (hg : w.grownBy w' (some p)) (hp : p < lo) : HeldLs n enc T U w' lo hi v l := by
  obtain ⟨xs, h1, h2, h3, h4, h5⟩ := h
  exact ⟨xs, h1.keptP hg hp, h2.keptP hg hp, h3, h4, Nat.le_trans h5 hg.size⟩
end
/-- A call gives slices of its own. -/
def GivesLs {α : Type} (n : Nat) (enc : α → List Value) (T U : TypeId) (l : List (List α)) (w : World) (e : Ending) (w' : World) : Prop :=
  ∃ A c L, Hid (L = l) ∧ e = .returned (.slice A L.length c) ∧ OwnLs n enc T U w' w.heap.size (.slice A L.length c) L ∧ Below w.heap.size w w'
/-- All of them are short. -/
def FewLs {α : Type} (l : List (List α)) : Prop := ∀ (j : Nat) (p : List α), l[j]? = some p → p.length ≤ 1048576
/-- What the size helper leaves. -/
def szLs {α : Type} : Int → List (List α) → Int
  | left, [] => left
  | left, p :: t => if left < (p.length : Int) then -1 else szLs (left - (p.length : Int)) t
def szSs {α : Type} (left : Int) (l : List (List α)) : Int := if left < (l.length : Int) then -1 else szLs (left - (l.length : Int)) l
theorem szLs_le {α : Type} : ∀ {l : List (List α)} {left : Int}, 0 ≤ left → 0 ≤ szLs left l → szLs left l ≤ left ∧ ∀ p ∈ l, (p.length : Int) ≤ left
  | [], left, h0, h => ⟨Int.le_refl _, fun p hp => by cases hp⟩
  | q :: t, left, h0, h => by
    unfold szLs at h ⊢
    split at h
    · omega
    · next hn =>
      rw [if_neg hn]
      obtain ⟨h1, h2⟩ := szLs_le (l := t) (left := left - (q.length : Int)) (by omega) h
      refine ⟨by omega, fun p hp => ?_⟩
      rcases List.mem_cons.1 hp with rfl | hp
      · omega
      · have := h2 p hp; omega
theorem szSs_le {α : Type} {l : List (List α)} {left : Int} (hl : left ≤ 1048576) (h0 : 0 ≤ left) (h : 0 ≤ szSs left l) : l.length ≤ 1048576 ∧ FewLs l ∧ szSs left l ≤ left := by
  unfold szSs at h ⊢
  split at h
  · omega
  · next hn =>
    rw [if_neg hn]
    obtain ⟨h1, h2⟩ := szLs_le (l := l) (left := left - (l.length : Int)) (by omega) h
    exact ⟨by omega, fun j p hp => by have := h2 p (List.mem_of_getElem? hp); omega, by omega⟩
end Go.Proofs.Ytbnjaaegbmhopaa
