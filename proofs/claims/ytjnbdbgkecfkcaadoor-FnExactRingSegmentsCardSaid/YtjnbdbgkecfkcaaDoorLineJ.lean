/- Lines: the iterator's contract, jointsOf, IsLine and walkLine of package impl. -/
import Derived.Test.YtjnbdbgkecfkcaaDoorLineI
namespace Go.Proofs.YtjnbdbgkecfkcaaDoor
open Go.ChangeShapes Go.WideShapes Go.ChangeAt Go.RowKit Go.Shelf
set_option linter.unusedVariables false
attribute [local go_sem] Oper.semAt_some

/-- Block B holds the cells cs. -/
def Laid (W : World) (B : Nat) (t : TypeId) (cs : Array Value) : Prop := W.heap[B]? = some (.cells cs t (0, 0))
section
variable {W W' : World} {B C : Nat} {t : TypeId} {cs : Array Value}
theorem Laid.lt (h : Laid W B t cs) : B < W.heap.size := (Array.getElem?_eq_some_iff.1 h).1
theorem Laid.cell (h : Laid W B t cs) {k : Nat} {v : Value} (hv : cs[k]? = some v) : W.cell? ⟨B, k, none⟩ = some v := by simp [World.cell?, show W.heap[B]? = _ from h, hv]
theorem Laid.frozen (h : Laid W B t cs) (k : Nat) : W.frozen? ⟨B, k, none⟩ = false := by simp [World.frozen?, show W.heap[B]? = _ from h]
theorem Laid.new (W : World) (t : TypeId) (cs : Array Value) : Laid (W.alloc (.cells cs t)) W.heap.size t cs := World.alloc_heap_new W _
theorem Laid.kept {row : Option Nat} (h : Laid W B t cs) (hg : W.grownBy W' row) (hne : some B ≠ row) : Laid W' B t cs := (hg.block B h.lt hne).trans h
theorem Laid.alloc (h : Laid W B t cs) (o : Obj) : Laid (W.alloc o) B t cs := h.kept (World.grownBy_alloc W o none) (by simp)
theorem Laid.below (h : Laid W B t cs) (hb : Below C W W') (hB : B < C) : Laid W' B t cs := (hb.block B hB).trans h
theorem Laid.call (h : Laid W B t cs) (hb : Below W.heap.size W W') : Laid W' B t cs := h.below hb h.lt
theorem Laid.drew (h : Laid W B t cs) : Laid W.drew B t cs := h
end
theorem laid_own {β : Type} (B : Nat) (t : TypeId) (f : β → Array Value) : _root_.Go.Own (fun s W => Laid W B t (f s)) := fun s X Y row hs hg hr =>
  Laid.kept hs hg (fun e => by obtain ⟨o, ho, hc⟩ := hr B e.symm; have hs' : X.heap[B]? = _ := hs; rw [hs'] at ho; injection ho with ho; subst ho; cases hc)
theorem boxed_call {W W' : World} {B : Nat} {t : TypeId} {v : Value} (h : Boxed W B t v) (hb : Below W.heap.size W W') : Boxed W' B t v := (hb.block B h.lt).trans h
theorem boxed_below {W W' : World} {B C : Nat} {t : TypeId} {v : Value} (h : Boxed W B t v) (hb : Below C W W') (hB : B < C) : Boxed W' B t v := (hb.block B hB).trans h
theorem boxed_drew {W : World} {B : Nat} {t : TypeId} {v : Value} (h : Boxed W B t v) : Boxed W.drew B t v := h
/-- A segment's cells. -/
abbrev sC (s : Int × Int × Int × Int) : Array Value := #[.int .i64 s.1, .int .i64 s.2.1, .int .i64 s.2.2.1, .int .i64 s.2.2.2]
theorem Laid.c4 {W : World} {B : Nat} {t : TypeId} {s : Int × Int × Int × Int} (h : Laid W B t (sC s)) :
    W.cell? ⟨B, 0, none⟩ = some (.int .i64 s.1) ∧ W.cell? ⟨B, 1, none⟩ = some (.int .i64 s.2.1) ∧ W.cell? ⟨B, 2, none⟩ = some (.int .i64 s.2.2.1) ∧ W.cell? ⟨B, 3, none⟩ = some (.int .i64 s.2.2.2) :=
  ⟨h.cell rfl, h.cell rfl, h.cell rfl, h.cell rfl⟩

theorem joints_stops (n : Nat) (hn : 1 ≤ n) (Bs M : Nat) (p : Nat → Prop) (A : Option Addr) (c : Nat) (l : List (Int × Int)) (hl : l.length ≤ 1099511627776) (w : World) (hBs : Bs < w.heap.size) (hM : M ≤ w.heap.size) (hp : p Bs) (hpM : ∀ k, k < M → p k)
    (hc : w.cell? ⟨Bs, 0, none⟩ = some (.slice A l.length c)) (hs : SeesE 2 encPoint w M A l) :
    SeqStopsK Fence.wide n Tryd.prog 78 #[.pointer (some ⟨Bs, 0, none⟩)] (fun x => #[sV x]) (KpS p) (fun ys => ys = jts l) (fun pre => pre <+: jts l) (jts l).length w := fun y J Jx W hW hJ _ hY h0 => by
  have hc' := (hW.cell (p := ⟨Bs, 0, none⟩) hBs).trans hc
  exact joints1_in n hn y Bs M W.heap.size p A c l J Jx hJ hp hpM hl hY W hc' (hs.below (hW.mono hM)) h0
theorem jointsOf_any (A : Option Addr) (m c : Nat) (w : World) :
    Calls Tryd.prog 56 #[.slice A m c] w fun e w' => e = .returned (.func (.func 78) #[] #[.pointer (some ⟨w.heap.size, 0, none⟩)]) ∧ w.alloc (.cells #[.slice A m c] 24) = w' := by
  go_enter Tryd.func56, Tryd.ntmps56
  go_wp2
  go_ret
  exact ⟨rfl, rfl⟩
theorem KpS.t {p : Nat → Prop} {A B C : World} (h : KpS p A B) (k : KpS p B C) : KpS p A C := h.trans k
theorem allS_snoc {pre : List (Int × Int × Int × Int)} {x : Int × Int × Int × Int} (h : ∀ s ∈ pre, sOk s = true) (hx : sOk x = true) : ∀ s ∈ pre ++ [x], sOk s = true := fun s hs =>
  (List.mem_append.1 hs).elim (h s) (fun e => by simp at e; subst e; exact hx)
end Go.Proofs.YtjnbdbgkecfkcaaDoor
