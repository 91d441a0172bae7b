/- Texts of this seat, one behind the other. -/
import Derived.RangeFuncNested
import Derived.RangeFuncBound
import Derived.RangeFuncCalls
import Derived.RangeFuncLeaves
import Derived.Shelf.Abstract
import Derived.Shelf.RegionOpen
import Derived.WalkKit
import Derived.OwnWalkIn
import Derived.TacticsInMore
import Derived.LoopNIn
import Derived.LoopIn
import Derived.Stop.RegionWithIn
import Derived.Test.YtkeljibnjpinlaaDoorB5
import Derived.Test.YtkeljibnjpinlaaDoorB4
import Derived.Test.YtkeljibnjpinlaaDoorB10
import Derived.Shelf.SlGeneric
import Derived.Shelf.Spec.SlicesGrow
import Derived.Ground.Names8Prog
import Derived.Shelf.SlSortCmp.WholeK
import Derived.Ground.SlsfProg
import Derived.Test.YtkeljibnjpinlaaDoorProg
import Derived.Test.YtkeljibnjpinlaaDoorB1
import Derived.Test.YtkeljibnjpinlaaDoorChecked
import Derived.LaidEql
import Derived.Stop.Asserts
import Derived.RowKitTokens
/- Lines: the iterator over the segments (impl), and IsLine. -/
namespace Go.Proofs.YtkeljibnjpinlaaDoor
open Go.ChangeShapes Go.WideShapes Go.ChangeAt Go.RowKit Go.Shelf
set_option linter.unusedVariables false
attribute [local go_sem] Oper.semAt_some

/-- The blocks of p lie as they lay. -/
def KpS (p : Nat → Prop) (W W' : World) : Prop := W.heap.size ≤ W'.heap.size ∧ ∀ k o, p k → W.heap[k]? = some o → W'.heap[k]? = some o
section
variable {p : Nat → Prop} {A B C W W' : World}
theorem KpS.refl (W : World) : KpS p W W := ⟨Nat.le_refl _, fun _ _ _ h => h⟩
theorem KpS.trans (h : KpS p A B) (k : KpS p B C) : KpS p A C := ⟨Nat.le_trans h.1 k.1, fun i o hp ho => k.2 i o hp (h.2 i o hp ho)⟩
theorem KpS.alloc (W : World) (o : Obj) : KpS p W (W.alloc o) := ⟨by simp, fun k o' _ hk => (Below.heap_alloc W o k (Array.getElem?_eq_some_iff.1 hk).1).trans hk⟩
theorem KpS.setCell (W : World) (a : Addr) (v : Value) (h : ¬ p a.block) : KpS p W (W.setCell a v) :=
  ⟨(KeepsWalks.setCell W a v).size, fun k o hp hk => (Below.heap_setCell W a v k (fun e => h (by subst e; exact hp))).trans hk⟩
theorem KpS.drew (W : World) : KpS p W W.drew := ⟨Nat.le_refl _, fun _ _ _ h => h⟩
theorem KpS.of_below {n : Nat} (h : Below n W W') (hp : ∀ k, p k → k < W.heap.size → k < n) : KpS p W W' :=
  ⟨h.size, fun k o hk ho => (h.block k (hp k hk (Array.getElem?_eq_some_iff.1 ho).1)).trans ho⟩
theorem KpS.of_call (h : Below W.heap.size W W') : KpS p W W' := KpS.of_below h fun _ _ h => h
theorem KpS.grown {r : Option Nat} (h : W.grownBy W' r) (hp : ∀ k, r = some k → ¬ p k) : KpS p W W' :=
  ⟨h.size, fun k o hk ho => (h.block k (Array.getElem?_eq_some_iff.1 ho).1 (fun e => hp k e.symm hk)).trans ho⟩
theorem KpS.mono {q : Nat → Prop} (h : KpS p A B) (hq : ∀ k, q k → p k) : KpS q A B := ⟨h.1, fun k o hk ho => h.2 k o (hq k hk) ho⟩
theorem KpS.cell (h : KpS p W W') {a : Addr} {v : Value} (hp : p a.block) (hc : W.cell? a = some v) : W'.cell? a = some v := by
  obtain ⟨o, ho, _⟩ := cells_of_cell hc
  exact (World.cell?_of_block ((h.2 _ o hp ho).trans ho.symm)).trans hc
/-- The law's book-keeping: a block from N on. -/
theorem KpS.book {N : Nat} (hp : ∀ k, p k → k < N) (W : World) (l : Nat) (o o' : Obj) (hl : N ≤ l) (h : W.heap[l]? = some o) (_ : o.isCells = false) (_ : o.isWalk = false) : KpS p W (W.putObj l o') :=
  ⟨by simp [World.putObj], fun k u hk hu => (World.putObj_heap_other (fun e => by have := hp k hk; omega)).trans hu⟩
theorem SeesE.kp {α : Type} {n : Nat} {enc : α → List Value} {M : Nat} {P : Option Addr} {l : List α} (h : SeesE n enc W M P l) (hk : KpS p W W') (hp : ∀ k, k < M → p k) : SeesE n enc W' M P l := fun j x hj => by
  obtain ⟨b, off, e, hb, hc⟩ := h j x hj
  exact ⟨b, off, e, hb, fun i v hv => hk.cell (a := ⟨b, off + j * n + i, none⟩) (hp b hb) (hc i v hv)⟩
end
theorem KeepsOthers.of_call {W W' : World} (h : Below W.heap.size W W') : KeepsOthers W W' := ⟨h.size, fun k o hk _ => (h.block k (Array.getElem?_eq_some_iff.1 hk).1).trans hk⟩
theorem KeepsOthers.drew' (W : World) : KeepsOthers W W.drew := ⟨Nat.le_refl _, fun _ _ h _ => h⟩
theorem abides_drew {β : Type} {B : Nat} {J : β → World → Prop} (h : AbidesFrom B J) {s : β} {W : World} (hs : J s W) : J s W.drew := h s W W.drew none hs ⟨rfl, rfl, rfl, Nat.le_refl _, fun _ _ _ => rfl⟩ (fun r e => by cases e)

theorem RoundIn.mono' {F : Fence} {n : Nat} {P : Program} {y fn : Nat} {tmps : Array Value} {assign body : Go.Code} {W : World} {X Y : World → Prop}
    (h : RoundIn F n P y fn tmps assign body W fun e W' => (e = .returned (.bool true) ∧ X W') ∨ (e = .returned (.bool false) ∧ Y W')) :
    RoundIn F n P y fn tmps assign body W fun e W' => ∃ b : Bool, e = .returned (.bool b) ∧ if b then X W' else Y W' :=
  h.mono fun e W' h => h.elim (fun h => ⟨true, h.1, by simpa using h.2⟩) (fun h => ⟨false, h.1, by simpa using h.2⟩)
theorem jts_succ {α : Type} {L : List α} {k : Nat} {x : α} (h : L[k]? = some x) : L.take k ++ [x] = L.take (k + 1) := by rw [List.take_add_one, h]; rfl
theorem jts_pre {α : Type} {L : List α} {k : Nat} {x : α} (h : L[k]? = some x) : L.take k ++ [x] <+: L := by rw [jts_succ h]; exact List.take_prefix _ _
set_option maxRecDepth 100000 in
set_option maxHeartbeats 4000000 in
/-- jointsOf's iterator, for every loop body that keeps what lies in the blocks of p. -/
theorem joints1_in (n : Nat) (hn : 1 ≤ n) (y Bs M n0 : Nat) (p : Nat → Prop) (A : Option Addr) (c : Nat) (l : List (Int × Int)) (J Jx : List (Int × Int × Int × Int) → World → Prop)
    (hJ : AbidesFrom n0 J) (hp : p Bs) (hpM : ∀ k, k < M → p k) (hl : l.length ≤ 1099511627776)
    (hY : ∀ pre x W, J pre W → pre.length < (jts l).length → YieldAt Fence.wide (n - 1) Tryd.prog y #[sV x] W fun e W' =>
      (e = .returned (.bool true) ∧ J (pre ++ [x]) W' ∧ KpS p W W') ∨ (e = .returned (.bool false) ∧ Jx (pre ++ [x]) W'))
    (W : World) (hBs : W.cell? ⟨Bs, 0, none⟩ = some (.slice A l.length c)) (hs : SeesE 2 encPoint W M A l) (h0 : J [] W) :
    CallsIn Fence.wide n Tryd.prog 77 #[.func (.yield y) #[] #[], .pointer (some ⟨Bs, 0, none⟩)] W fun e W' => (∃ v, e = .returned v) ∧
      ((∃ ys, ys = jts l ∧ J ys W') ∨ (∃ pre, pre <+: jts l ∧ Jx pre W')) := by
  refine callsIn_of_wp Tryd.func77 rfl trivial ?_ rfl
  simp only [Tryd.ntmps77, List.size_toArray, List.length_cons, List.length_nil, Nat.reduceAdd, Nat.reduceSub, Array.replicate_succ, Array.replicate_zero, List.push_toArray, List.append_toArray, List.nil_append, List.cons_append]
  have HS := Lib.hid hs; clear hs
  gi_wp2
  gi_loopw [3] (fun i wr => ∃ k : Nat, i = .int .i64 ((k : Int) + 1) ∧ k ≤ (jts l).length ∧ J ((jts l).take k) wr ∧ KpS p W wr)
    (fun i _ => l.length - (intOf i).toNat)
  case atStart => exact ⟨0, rfl, Nat.zero_le _, h0, KpS.refl _⟩
  case round =>
    obtain ⟨k, rfl, hk, hJs, hkp⟩ := hrel
    have hb1 := hkp.cell (a := ⟨Bs, 0, none⟩) hp hBs
    have hjl := jts_len l
    by_cases hlt : k + 1 < l.length
    · obtain ⟨a, b, c', d, g1, g2, g3⟩ := jts_at hlt
      obtain ⟨B, off, rfl, hBM, -⟩ := HS.out k _ g1
      obtain ⟨c1, c2⟩ := cellsPoint (HS.out.kp hkp hpM) g1
      obtain ⟨c3, c4⟩ := cellsPoint (HS.out.kp hkp hpM) g2
      obtain ⟨fn, tmps, assign, body, hy, hR⟩ := hY _ (a, b, c', d) wr.drew (abides_drew hJ hJs) (by rw [List.length_take]; omega)
      change (Instr.yield y #[.agg #[.int .i64 a, .int .i64 b, .int .i64 c', .int .i64 d]]).run _ _ = _ at hy
      have HJ := Lib.hid hJs; clear hJs
      have HK := Lib.hid hkp; clear hkp
      have G3 := Lib.hid g3; clear g3
      clear g1 g2
      gi_wp2
      have hR' := RoundIn.mono' hR
      have hw : IntKind.i64.wrap (k : Int) = k := IntWalk.i64_in _ (by omega)
      gi_region_with (with_reducible refine RoundIn.mono hR' ?_; rintro e W3 ⟨bb, rfl, hout⟩; have HO := Lib.hid hout; clear hout)
      all_goals
        cases bb
        · have hx := HO.out
          simp only [Bool.false_eq_true, if_false] at hx
          gi_wp2
          refine bodyPost_ret (results_none rfl _ _ _) rfl ?_
          exact ⟨⟨_, rfl⟩, .inr ⟨_, jts_pre G3.out, hx⟩⟩
        · have hx := HO.out
          simp only [if_true] at hx
          obtain ⟨hj3, hk3⟩ := hx
          have HJ3 := Lib.hid hj3
          have HK3 := Lib.hid (HK.out.trans ((KpS.drew _).trans hk3))
          clear hj3 hk3 HO HJ
          gi_wp2
          go_roundw
          case rel => exact ⟨k + 1, by go_num, by omega, by rw [← jts_succ G3.out]; exact HJ3.out, HK3.out⟩
          case measure => simp [intOf]; omega
    · gi_wp2
      go_end0
      have e : k = (jts l).length := by omega
      subst e
      exact ⟨⟨_, rfl⟩, .inl ⟨_, rfl, by rw [List.take_length] at hJs; exact hJs⟩⟩
end Go.Proofs.YtkeljibnjpinlaaDoor

/- Lines: the iterator's contract, jointsOf, IsLine and walkLine of package impl. -/
namespace Go.Proofs.YtkeljibnjpinlaaDoor
open Go.ChangeShapes Go.WideShapes Go.ChangeAt Go.RowKit Go.Shelf
set_option linter.unusedVariables false
attribute [local go_sem] Oper.semAt_some

/-- Block B holds the cells cs. -/
def Laid (W : World) (B : Nat) (t : TypeId) (cs : Array Value) : Prop := W.heap[B]? = some (.cells cs t (0, 0))
section
variable {W W' : World} {B C : Nat} {t : TypeId} {cs : Array Value}
theorem Laid.lt (h : Laid W B t cs) : B < W.heap.size := (Array.getElem?_eq_some_iff.1 h).1
theorem Laid.cell (h : Laid W B t cs) {k : Nat} {v : Value} (hv : cs[k]? = some v) : W.cell? ⟨B, k, none⟩ = some v := by simp [World.cell?, show W.heap[B]? = _ from h, hv]
theorem Laid.frozen (h : Laid W B t cs) (k : Nat) : W.frozen? ⟨B, k, none⟩ = false := by simp [World.frozen?, show W.heap[B]? = _ from h]
theorem Laid.new (W : World) (t : TypeId) (cs : Array Value) : Laid (W.alloc (.cells cs t)) W.heap.size t cs := World.alloc_heap_new W _
theorem Laid.kept {row : Option Nat} (h : Laid W B t cs) (hg : W.grownBy W' row) (hne : some B ≠ row) : Laid W' B t cs := (hg.block B h.lt hne).trans h
theorem Laid.alloc (h : Laid W B t cs) (o : Obj) : Laid (W.alloc o) B t cs := h.kept (World.grownBy_alloc W o none) (by simp)
theorem Laid.below (h : Laid W B t cs) (hb : Below C W W') (hB : B < C) : Laid W' B t cs := (hb.block B hB).trans h
theorem Laid.call (h : Laid W B t cs) (hb : Below W.heap.size W W') : Laid W' B t cs := h.below hb h.lt
theorem Laid.drew (h : Laid W B t cs) : Laid W.drew B t cs := h
end
theorem laid_own {β : Type} (B : Nat) (t : TypeId) (f : β → Array Value) : _root_.Go.Own (fun s W => Laid W B t (f s)) := fun s X Y row hs hg hr =>
  Laid.kept hs hg (fun e => by obtain ⟨o, ho, hc⟩ := hr B e.symm; have hs' : X.heap[B]? = _ := hs; rw [hs'] at ho; injection ho with ho; subst ho; cases hc)
theorem boxed_call {W W' : World} {B : Nat} {t : TypeId} {v : Value} (h : Boxed W B t v) (hb : Below W.heap.size W W') : Boxed W' B t v := (hb.block B h.lt).trans h
theorem boxed_below {W W' : World} {B C : Nat} {t : TypeId} {v : Value} (h : Boxed W B t v) (hb : Below C W W') (hB : B < C) : Boxed W' B t v := (hb.block B hB).trans h
theorem boxed_drew {W : World} {B : Nat} {t : TypeId} {v : Value} (h : Boxed W B t v) : Boxed W.drew B t v := h
/-- A segment's cells. -/
abbrev sC (s : Int × Int × Int × Int) : Array Value := #[.int .i64 s.1, .int .i64 s.2.1, .int .i64 s.2.2.1, .int .i64 s.2.2.2]
theorem Laid.c4 {W : World} {B : Nat} {t : TypeId} {s : Int × Int × Int × Int} (h : Laid W B t (sC s)) :
    W.cell? ⟨B, 0, none⟩ = some (.int .i64 s.1) ∧ W.cell? ⟨B, 1, none⟩ = some (.int .i64 s.2.1) ∧ W.cell? ⟨B, 2, none⟩ = some (.int .i64 s.2.2.1) ∧ W.cell? ⟨B, 3, none⟩ = some (.int .i64 s.2.2.2) :=
  ⟨h.cell rfl, h.cell rfl, h.cell rfl, h.cell rfl⟩

theorem joints_stops (n : Nat) (hn : 1 ≤ n) (Bs M : Nat) (p : Nat → Prop) (A : Option Addr) (c : Nat) (l : List (Int × Int)) (hl : l.length ≤ 1099511627776) (w : World) (hBs : Bs < w.heap.size) (hM : M ≤ w.heap.size) (hp : p Bs) (hpM : ∀ k, k < M → p k)
    (hc : w.cell? ⟨Bs, 0, none⟩ = some (.slice A l.length c)) (hs : SeesE 2 encPoint w M A l) :
    SeqStopsK Fence.wide n Tryd.prog 77 #[.pointer (some ⟨Bs, 0, none⟩)] (fun x => #[sV x]) (KpS p) (fun ys => ys = jts l) (fun pre => pre <+: jts l) (jts l).length w := fun y J Jx W hW hJ _ hY h0 => by
  have hc' := (hW.cell (p := ⟨Bs, 0, none⟩) hBs).trans hc
  exact joints1_in n hn y Bs M W.heap.size p A c l J Jx hJ hp hpM hl hY W hc' (hs.below (hW.mono hM)) h0
theorem jointsOf_any (A : Option Addr) (m c : Nat) (w : World) :
    Calls Tryd.prog 56 #[.slice A m c] w fun e w' => e = .returned (.func (.func 77) #[] #[.pointer (some ⟨w.heap.size, 0, none⟩)]) ∧ w.alloc (.cells #[.slice A m c] 24) = w' := by
  go_enter Tryd.func56, Tryd.ntmps56
  go_wp2
  go_ret
  exact ⟨rfl, rfl⟩
theorem KpS.t {p : Nat → Prop} {A B C : World} (h : KpS p A B) (k : KpS p B C) : KpS p A C := h.trans k
theorem allS_snoc {pre : List (Int × Int × Int × Int)} {x : Int × Int × Int × Int} (h : ∀ s ∈ pre, sOk s = true) (hx : sOk x = true) : ∀ s ∈ pre ++ [x], sOk s = true := fun s hs =>
  (List.mem_append.1 hs).elim (h s) (fun e => by simp at e; subst e; exact hx)
end Go.Proofs.YtkeljibnjpinlaaDoor

/- Segments that follow one another: meetInTurn of package impl. -/
namespace Go.Proofs.YtkeljibnjpinlaaDoor
open Go.ChangeShapes Go.WideShapes Go.ChangeAt Go.RowKit
set_option linter.unusedVariables false

/-- What two segments at i < k of n should meet like; z: the last one is followed by the first one. -/
def wantC (z : Bool) (n i k : Nat) : Int := if i + 1 = k ∨ (z = true ∧ i = 0 ∧ k + 1 = n) then 1 else 0
def prOk (z : Bool) (S : List (Int × Int × Int × Int)) (i k : Nat) : Bool := match S[i]?, S[k]? with
  | some u, some v => howS u v == wantC z S.length i k
  | _, _ => true
theorem prOk_at {z : Bool} {S : List (Int × Int × Int × Int)} {i k : Nat} {u v : Int × Int × Int × Int} (h : S[i]? = some u) (h' : S[k]? = some v) : prOk z S i k = (howS u v == wantC z S.length i k) := by simp only [prOk, h, h']
/-- Do they meet in turn? -/
def turnV (z : Bool) (S : List (Int × Int × Int × Int)) : Bool := decide (∀ k, k < S.length → ∀ i, i < k → prOk z S i k = true)
theorem turn_no {z : Bool} {S : List (Int × Int × Int × Int)} {i k : Nat} {u v : Int × Int × Int × Int} (hi : S[i]? = some u) (hk : S[k]? = some v) (hik : i < k) (h : ¬ howS u v = wantC z S.length i k) : turnV z S = false :=
  decide_eq_false fun g => by
    have := g k (List.getElem?_eq_some_iff.1 hk).1 i hik
    rw [prOk_at hi hk, beq_iff_eq] at this
    exact h this
theorem turn_yes {z : Bool} {S : List (Int × Int × Int × Int)} (h : ∀ k, k < S.length → ∀ i, i < k → prOk z S i k = true) : turnV z S = true := decide_eq_true h
theorem pr_ok {z : Bool} {S : List (Int × Int × Int × Int)} {i k : Nat} {u v : Int × Int × Int × Int} (hi : S[i]? = some u) (hk : S[k]? = some v) (h : howS u v = wantC z S.length i k) : prOk z S i k = true := by
  rw [prOk_at hi hk, beq_iff_eq]; exact h
set_option maxRecDepth 100000 in
set_option maxHeartbeats 4000000 in
theorem meetRightly_is (Bs Bc Bl b off c1 B i j : Nat) (cl : Bool) (L : List (Int × Int × Int × Int)) (u v : Int × Int × Int × Int) (w : World) (hBs : w.cell? ⟨Bs, 0, none⟩ = some (.slice (some ⟨b, off, none⟩) L.length c1))
    (hBc : w.cell? ⟨Bc, 0, none⟩ = some (.bool cl)) (hBl : w.cell? ⟨Bl, 0, none⟩ = some (.int .i64 ((L.length : Int) - 1))) (hs : SeesE 4 encSegment w B (some ⟨b, off, none⟩) L) (h9 : L.length ≤ 1000)
    (hu : L[i]? = some u) (hv : L[j]? = some v) (z : Bool) (hz : decide (howS u v = wantC cl L.length i j) = z) :
    Calls Tryd.prog 78 #[.int .i64 i, .int .i64 j, .pointer (some ⟨Bs, 0, none⟩), .pointer (some ⟨Bc, 0, none⟩), .pointer (some ⟨Bl, 0, none⟩)] w fun e w' => e = .returned (.bool z) ∧ Below w.heap.size w w' := by
  have hil := (List.getElem?_eq_some_iff.1 hu).1
  have hjl := (List.getElem?_eq_some_iff.1 hv).1
  have hil' : (i : Int) < (L.length : Int) := by omega
  have hjl' : (j : Int) < (L.length : Int) := by omega
  obtain ⟨k0, k1, k2, k3⟩ := cells4 hs hu
  obtain ⟨k4, k5, k6, k7⟩ := cells4 hs hv
  obtain ⟨m, hm⟩ : ∃ m, howS u v = m := ⟨_, rfl⟩
  have HZ : Hid (decide (m = wantC cl L.length i j) = z) := Lib.hid (by rw [← hm]; exact hz)
  clear hu hv hs hz
  go_enter Tryd.func78, Tryd.ntmps78
  go_wp2
  go_region_held3 (fun w' => w'.cell? ⟨Bs, 0, none⟩ = some (.slice (some ⟨b, off, none⟩) L.length c1) ∧ (w'.cell? ⟨b, off + i * 4, none⟩ = some (.int .i64 u.1) ∧ w'.cell? ⟨b, off + i * 4 + 1, none⟩ = some (.int .i64 u.2.1) ∧ w'.cell? ⟨b, off + i * 4 + 2, none⟩ = some (.int .i64 u.2.2.1) ∧ w'.cell? ⟨b, off + i * 4 + 3, none⟩ = some (.int .i64 u.2.2.2)) ∧ (w'.cell? ⟨b, off + j * 4, none⟩ = some (.int .i64 v.1) ∧ w'.cell? ⟨b, off + j * 4 + 1, none⟩ = some (.int .i64 v.2.1) ∧ w'.cell? ⟨b, off + j * 4 + 2, none⟩ = some (.int .i64 v.2.2.1) ∧ w'.cell? ⟨b, off + j * 4 + 3, none⟩ = some (.int .i64 v.2.2.2))) (first | exact ⟨hBs, ⟨k0, k1, k2, k3⟩, ⟨k4, k5, k6, k7⟩⟩ | exact hQ) (first
    | (go_at_call 79; refine (howS_is u v _ _ hm).mono ?_; rintro e w9 ⟨rfl, hb9⟩; have hb9' := Lib.hid hb9; have hQ := And.intro ((hb9.cell (World.block_lt_of_cell? _ _ hBs)).trans hBs) (And.intro (And.intro ((hb9.cell (World.block_lt_of_cell? _ _ k0)).trans k0) (And.intro ((hb9.cell (World.block_lt_of_cell? _ _ k1)).trans k1) (And.intro ((hb9.cell (World.block_lt_of_cell? _ _ k2)).trans k2) ((hb9.cell (World.block_lt_of_cell? _ _ k3)).trans k3)))) (And.intro ((hb9.cell (World.block_lt_of_cell? _ _ k4)).trans k4) (And.intro ((hb9.cell (World.block_lt_of_cell? _ _ k5)).trans k5) (And.intro ((hb9.cell (World.block_lt_of_cell? _ _ k6)).trans k6) ((hb9.cell (World.block_lt_of_cell? _ _ k7)).trans k7)))))) | fail)
  all_goals
    have hc9 := (hb9.cell (World.block_lt_of_cell? _ _ hBc)).trans hBc
    have hl9 := (hb9.cell (World.block_lt_of_cell? _ _ hBl)).trans hBl
    by_cases he : i + 1 = j
    · have he' : (i : Int) + 1 = (j : Int) := by omega
      have hz := HZ.out
      rw [show wantC cl L.length i j = 1 from if_pos (.inl he)] at hz
      by_cases h1 : m = 1
      · subst h1
        obtain rfl : z = true := by rw [← hz]; rfl
        go_wp2
        go_ret
        exact ⟨rfl, (Below.refl _ w).drew.trans hb9⟩
      · obtain rfl : z = false := by rw [← hz, decide_eq_false h1]
        go_wp2
        go_ret
        exact ⟨by simp [h1], (Below.refl _ w).drew.trans hb9⟩
    · have he' : ¬ ((i : Int) + 1 = (j : Int)) := by omega
      have he2 : ((i : Int) + 1 == (j : Int)) = false := by simp [he']
      have hz := HZ.out
      cases cl
      · rw [show wantC false L.length i j = 0 from if_neg (by simp [he])] at hz
        by_cases h1 : m = 0
        · subst h1
          obtain rfl : z = true := by rw [← hz]; rfl
          go_wp2
          go_ret
          exact ⟨rfl, (Below.refl _ w).drew.trans hb9⟩
        · obtain rfl : z = false := by rw [← hz, decide_eq_false h1]
          go_wp2
          go_ret
          exact ⟨by simp [h1], (Below.refl _ w).drew.trans hb9⟩
      · by_cases hi0 : i = 0
        · subst hi0
          by_cases hj0 : j + 1 = L.length
          · have hj1 : ((j : Int) == (L.length : Int) - 1) = true := by simp; omega
            rw [show wantC true L.length 0 j = 1 from if_pos (.inr ⟨rfl, rfl, hj0⟩)] at hz
            by_cases h1 : m = 1
            · subst h1
              obtain rfl : z = true := by rw [← hz]; rfl
              go_wp2
              go_ret
              exact ⟨rfl, (Below.refl _ w).drew.trans hb9⟩
            · obtain rfl : z = false := by rw [← hz, decide_eq_false h1]
              go_wp2
              go_ret
              exact ⟨by simp [h1], (Below.refl _ w).drew.trans hb9⟩
          · have hj1 : ((j : Int) == (L.length : Int) - 1) = false := by simp; omega
            rw [show wantC true L.length 0 j = 0 from if_neg (by simp; omega)] at hz
            by_cases h1 : m = 0
            · subst h1
              obtain rfl : z = true := by rw [← hz]; rfl
              go_wp2
              go_ret
              exact ⟨rfl, (Below.refl _ w).drew.trans hb9⟩
            · obtain rfl : z = false := by rw [← hz, decide_eq_false h1]
              go_wp2
              go_ret
              exact ⟨by simp [h1], (Below.refl _ w).drew.trans hb9⟩
        · have hi1 : ((i : Int) == 0) = false := by simp; omega
          rw [show wantC true L.length i j = 0 from if_neg (by simp; omega)] at hz
          by_cases h1 : m = 0
          · subst h1
            obtain rfl : z = true := by rw [← hz]; rfl
            go_wp2
            go_ret
            exact ⟨rfl, (Below.refl _ w).drew.trans hb9⟩
          · obtain rfl : z = false := by rw [← hz, decide_eq_false h1]
            go_wp2
            go_ret
            exact ⟨by simp [h1], (Below.refl _ w).drew.trans hb9⟩
set_option maxRecDepth 100000 in
set_option maxHeartbeats 4000000 in
theorem meetInTurn_is (A1 : Option Addr) (c1 : Nat) (cl : Bool) (L : List (Int × Int × Int × Int)) (w : World) (hs : SeesE 4 encSegment w w.heap.size A1 L) (h9 : L.length ≤ 1000) (z : Bool) (hz : turnV cl L = z) :
    Calls Tryd.prog 57 #[.slice A1 L.length c1, .bool cl] w fun e w' => e = .returned (.bool z) ∧ Below w.heap.size w w' := by
  have HS := Lib.hid hs; clear hs
  have HZ := Lib.hid hz; clear hz
  go_enter Tryd.func57, Tryd.ntmps57
  go_wp2
  have e1 : (w.alloc (.cells #[.slice A1 L.length c1] 38)).heap.size = w.heap.size + 1 := by simp
  have e2 : ((w.alloc (.cells #[.slice A1 L.length c1] 38)).alloc (.cells #[.bool cl] 4)).heap.size = w.heap.size + 1 + 1 := by simp
  have bC0 := Boxed.new (w.alloc (.cells #[.slice A1 L.length c1] 38)) 4 (.bool cl)
  rw [e1] at bC0
  have bL0 := Boxed.new ((w.alloc (.cells #[.slice A1 L.length c1] 38)).alloc (.cells #[.bool cl] 4)) 3 (.int .i64 ((L.length : Int) - 1))
  rw [e2] at bL0
  have HX0 := Lib.hid (((Boxed.new w 38 (.slice A1 L.length c1)).alloc (.cells #[.bool cl] 4)).alloc (.cells #[.int .i64 ((L.length : Int) - 1)] 3))
  have HC0 := Lib.hid (bC0.alloc (.cells #[.int .i64 ((L.length : Int) - 1)] 3))
  have HL0 := Lib.hid bL0
  have HB0 := Lib.hid ((((Below.refl w.heap.size w).alloc (Nat.le_refl _) (.cells #[.slice A1 L.length c1] 38)).alloc (by simp) (.cells #[.bool cl] 4)).alloc (by simp; omega) (.cells #[.int .i64 ((L.length : Int) - 1)] 3))
  clear bC0 bL0 e1 e2
  generalize w.heap.size + 1 + 1 = Bl at HX0 HC0 HL0 HB0 ⊢
  generalize w.heap.size + 1 = Bc at HX0 HC0 HL0 HB0 ⊢
  generalize hW : ((w.alloc (.cells #[.slice A1 L.length c1] 38)).alloc (.cells #[.bool cl] 4)).alloc (.cells #[.int .i64 ((L.length : Int) - 1)] 3) = w2 at HX0 HC0 HL0 HB0 ⊢
  clear hW
  go_loopw [15] (fun i wr => ∃ j : Nat, j ≤ L.length ∧ i = .int .i64 j ∧ Hid (∀ k, k < j → ∀ i, i < k → prOk cl L i k = true) ∧ Hid (Boxed wr w.heap.size 38 (.slice A1 L.length c1)) ∧ Hid (Boxed wr Bc 4 (.bool cl)) ∧ Hid (Boxed wr Bl 3 (.int .i64 ((L.length : Int) - 1))) ∧ Hid (Below w.heap.size w wr)) (fun i _ => L.length - (intOf i).toNat)
  case atStart => exact ⟨0, Nat.zero_le _, rfl, Lib.hid (fun k hk => by omega), HX0, HC0, HL0, HB0⟩
  case round =>
    obtain ⟨i, hi, rfl, hp, HX, HC, HL, HB⟩ := hrel
    clear HX0 HC0 HL0 HB0
    by_cases hlt : i < L.length
    · have hli : (i : Int) < (L.length : Int) := by omega
      go_wp2
      go_loopw [19] (fun k wx => ∃ j : Nat, j ≤ i ∧ k = .int .i64 j ∧ Hid (∀ q, q < j → prOk cl L q i = true) ∧ Hid (Boxed wx w.heap.size 38 (.slice A1 L.length c1)) ∧ Hid (Boxed wx Bc 4 (.bool cl)) ∧ Hid (Boxed wx Bl 3 (.int .i64 ((L.length : Int) - 1))) ∧ Hid (Below w.heap.size w wx)) (fun k _ => i - (intOf k).toNat)
      case atStart => exact ⟨0, Nat.zero_le _, rfl, Lib.hid (fun k hk => by omega), HX, HC, HL, HB⟩
      case round =>
        obtain ⟨j, hj, rfl, hq, HX, HC, HL, HB⟩ := hrel
        by_cases hlj : j < i
        · have hlj' : (j : Int) < (i : Int) := by omega
          obtain ⟨b, off, v, rfl, hbl, hv, -⟩ := HS.out.lt hlt
          obtain ⟨u, hu⟩ : ∃ u, L[j]? = some u := ⟨_, List.getElem?_eq_getElem (by omega)⟩
          have HU := Lib.hid hu; have HV := Lib.hid hv
          clear hu hv
          cases hd : decide (howS u v = wantC cl L.length j i)
          · obtain rfl : z = false := HZ.out.symm.trans (turn_no HU.out HV.out hlj (of_decide_eq_false hd))
            go_wp2_with (go_at_call 78; refine (meetRightly_is w.heap.size Bc Bl b off c1 _ j i cl L u v _ HX.out.cell HC.out.cell HL.out.cell (HS.out.below HB.out) h9 HU.out HV.out _ hd).mono ?_; rintro e w9 ⟨rfl, hb9⟩)
            go_ret
            exact ⟨rfl, HB.out.trans (hb9.mono HB.out.size)⟩
          · go_wp2_with (go_at_call 78; refine (meetRightly_is w.heap.size Bc Bl b off c1 _ j i cl L u v _ HX.out.cell HC.out.cell HL.out.cell (HS.out.below HB.out) h9 HU.out HV.out _ hd).mono ?_; rintro e w9 ⟨rfl, hb9⟩)
            go_roundw
            case rel => exact ⟨j + 1, by omega, by go_num, Lib.hid (upto_step hq.out (pr_ok HU.out HV.out (of_decide_eq_true hd))), Lib.hid (boxed_call HX.out hb9), Lib.hid (boxed_call HC.out hb9), Lib.hid (boxed_call HL.out hb9), Lib.hid (HB.out.trans (hb9.mono HB.out.size))⟩
            case measure => simp [intOf]; omega
        · obtain rfl : j = i := by omega
          go_wp2
          go_roundw
          case rel => exact ⟨j + 1, by omega, by go_num, Lib.hid (upto_step hp.out hq.out), HX, HC, HL, HB⟩
          case measure => simp [intOf]; omega
    · obtain rfl : i = L.length := by omega
      obtain rfl : z = true := HZ.out.symm.trans (turn_yes hp.out)
      go_wp2
      go_ret
      exact ⟨rfl, HB.out⟩
end Go.Proofs.YtkeljibnjpinlaaDoor

/- The contracts of the standard library's generic functions that this seat needs, at this translation: layings in plain words. -/
namespace Go.Proofs
open Go.Shelf
def Tryd.growPt_ren : Go.Shelf.Ren := ⟨fun | 4 => 61 | n => n, fun | 22 => 24 | 25 => 33 | 3 => 3 | 4 => 4 | 9 => 9 | 20 => 20 | 0 => 0 | 2 => 3 | n => n, fun | n => n⟩
theorem Tryd.growPt : Go.Proofs.Lays8.n4 Tryd.prog Tryd.growPt_ren := {
  mixed := by kernel_rfl
  f4 := ⟨Tryd.f61.name, by decide, Tryd.func61.trans (congrArg some (by kernel_rfl))⟩
  t0 := Tryd.underlying0
  a0 := Tryd.isAgg0
  z0 := Tryd.sizeOf0
  v0 := Tryd.zeroValue0
  t3 := Tryd.underlying3
  a3 := Tryd.isAgg3
  z3 := Tryd.sizeOf3
  v3 := Tryd.zeroValue3
  t4 := Tryd.underlying4
  a4 := Tryd.isAgg4
  z4 := Tryd.sizeOf4
  v4 := Tryd.zeroValue4
  t9 := Tryd.underlying9
  a9 := Tryd.isAgg9
  z9 := Tryd.sizeOf9
  v9 := Tryd.zeroValue9
  t20 := Tryd.underlying20
  a20 := Tryd.isAgg20
  z20 := Tryd.sizeOf20
  v20 := Tryd.zeroValue20
  t22 := Tryd.underlying24
  a22 := Tryd.isAgg24
  z22 := Tryd.sizeOf24
  v22 := Tryd.zeroValue24 }
def Tryd.sortSeg_ren : Go.Shelf.Ren := ⟨fun | 6 => 65 | 15 => 83 | 14 => 82 | 28 => 98 | 29 => 99 | 20 => 90 | 21 => 91 | 22 => 92 | 23 => 93 | 24 => 94 | 25 => 95 | 26 => 96 | 27 => 97 | 46 => 102 | 47 => 103 | 48 => 104 | 49 => 105 | 50 => 106 | 57 => 108 | n => n, fun | 22 => 38 | 24 => 60 | 25 => 69 | 3 => 3 | 39 => 113 | 0 => 0 | 53 => 137 | 55 => 139 | 4 => 4 | 46 => 130 | 45 => 129 | 50 => 134 | 5 => 5 | 9 => 9 | 66 => 143 | 70 => 147 | 76 => 150 | 77 => 151 | n => n, fun | n => n⟩
theorem Tryd.sortSeg : Go.Proofs.SlLaysF0.n6 Tryd.prog Tryd.sortSeg_ren := {
  mixed := by kernel_rfl
  f6 := ⟨Tryd.f65.name, by decide, Tryd.func65.trans (congrArg some (by kernel_rfl))⟩
  f14 := ⟨Tryd.f82.name, by decide, Tryd.func82.trans (congrArg some (by kernel_rfl))⟩
  f15 := Tryd.func83.trans (congrArg some (by kernel_rfl))
  f20 := ⟨Tryd.f90.name, by decide, Tryd.func90.trans (congrArg some (by kernel_rfl))⟩
  f21 := ⟨Tryd.f91.name, by decide, Tryd.func91.trans (congrArg some (by kernel_rfl))⟩
  f22 := ⟨Tryd.f92.name, by decide, Tryd.func92.trans (congrArg some (by kernel_rfl))⟩
  f23 := ⟨Tryd.f93.name, by decide, Tryd.func93.trans (congrArg some (by kernel_rfl))⟩
  f24 := ⟨Tryd.f94.name, by decide, Tryd.func94.trans (congrArg some (by kernel_rfl))⟩
  f25 := ⟨Tryd.f95.name, by decide, Tryd.func95.trans (congrArg some (by kernel_rfl))⟩
  f26 := ⟨Tryd.f96.name, by decide, Tryd.func96.trans (congrArg some (by kernel_rfl))⟩
  f27 := ⟨Tryd.f97.name, by decide, Tryd.func97.trans (congrArg some (by kernel_rfl))⟩
  f28 := Tryd.func98.trans (congrArg some (by kernel_rfl))
  f29 := Tryd.func99.trans (congrArg some (by kernel_rfl))
  f46 := ⟨Tryd.f102.name, by decide, Tryd.func102.trans (congrArg some (by kernel_rfl))⟩
  f47 := Tryd.func103.trans (congrArg some (by kernel_rfl))
  f48 := Tryd.func104.trans (congrArg some (by kernel_rfl))
  f49 := ⟨Tryd.f105.name, by decide, Tryd.func105.trans (congrArg some (by kernel_rfl))⟩
  f50 := ⟨Tryd.f106.name, by decide, Tryd.func106.trans (congrArg some (by kernel_rfl))⟩
  f57 := ⟨Tryd.f108.name, by decide, Tryd.func108.trans (congrArg some (by kernel_rfl))⟩
  t0 := Tryd.underlying0
  a0 := Tryd.isAgg0
  z0 := Tryd.sizeOf0
  v0 := Tryd.zeroValue0
  t3 := Tryd.underlying3
  a3 := Tryd.isAgg3
  z3 := Tryd.sizeOf3
  v3 := Tryd.zeroValue3
  t4 := Tryd.underlying4
  a4 := Tryd.isAgg4
  z4 := Tryd.sizeOf4
  v4 := Tryd.zeroValue4
  t5 := Tryd.underlying5
  a5 := Tryd.isAgg5
  z5 := Tryd.sizeOf5
  v5 := Tryd.zeroValue5
  t9 := Tryd.underlying9
  a9 := Tryd.isAgg9
  z9 := Tryd.sizeOf9
  v9 := Tryd.zeroValue9
  t22 := Tryd.underlying38
  a22 := Tryd.isAgg38
  z22 := Tryd.sizeOf38
  v22 := Tryd.zeroValue38
  t25 := Tryd.underlying69
  a25 := Tryd.isAgg69
  z25 := Tryd.sizeOf69
  v25 := Tryd.zeroValue69
  t39 := Tryd.underlying113
  a39 := Tryd.isAgg113
  z39 := Tryd.sizeOf113
  v39 := Tryd.zeroValue113
  t45 := Tryd.underlying129
  a45 := Tryd.isAgg129
  z45 := Tryd.sizeOf129
  v45 := Tryd.zeroValue129
  t46 := Tryd.underlying130
  a46 := Tryd.isAgg130
  z46 := Tryd.sizeOf130
  v46 := Tryd.zeroValue130
  t50 := Tryd.underlying134
  a50 := Tryd.isAgg134
  z50 := Tryd.sizeOf134
  v50 := Tryd.zeroValue134
  t53 := Tryd.underlying137
  a53 := Tryd.isAgg137
  z53 := Tryd.sizeOf137
  v53 := Tryd.zeroValue137
  t55 := Tryd.underlying139
  a55 := Tryd.isAgg139
  z55 := Tryd.sizeOf139
  v55 := Tryd.zeroValue139
  t66 := Tryd.underlying143
  a66 := Tryd.isAgg143
  z66 := Tryd.sizeOf143
  v66 := Tryd.zeroValue143
  t70 := Tryd.underlying147
  a70 := Tryd.isAgg147
  z70 := Tryd.sizeOf147
  v70 := Tryd.zeroValue147
  t76 := Tryd.underlying150
  a76 := Tryd.isAgg150
  z76 := Tryd.sizeOf150
  v76 := Tryd.zeroValue150
  t77 := Tryd.underlying151
  a77 := Tryd.isAgg151
  z77 := Tryd.sizeOf151
  v77 := Tryd.zeroValue151 }
end Go.Proofs

/- slices.Grow of nothing and slices.Concat of two, at points; RotateRing of package impl. -/
namespace Go.Proofs.YtkeljibnjpinlaaDoor
open Go.ChangeShapes Go.WideShapes Go.ChangeAt Go.RowKit
set_option linter.unusedVariables false

/-- Grow of nothing: no points, with room. -/
theorem grow_any (n : Nat) (w : World) (hn : n ≤ 2199023255552) :
    Calls Tryd.prog 61 #[.slice none 0 0, .int .i64 n] w fun e w' => ∃ A c, e = .returned (.slice A 0 c) ∧ OwnE 2 encPoint w' w.heap.size 33 (.slice A 0 c) ([] : List (Int × Int)) ∧ Below w.heap.size w w' := by
  by_cases h0 : n = 0
  · subst h0
    refine (Any8.slices_Grow_room Tryd.growPt none 0 0 0 w (Nat.le_refl _) (by omega) (by omega) (by omega)).mono ?_
    rintro e w' ⟨rfl, rfl⟩
    exact ⟨none, 0, rfl, OwnE.nil _ _ _, Below.refl _ _⟩
  · obtain ⟨i, hi, hz, h1, h2⟩ := info_parts infoPoint
    refine (Any8.slices_Grow_grow Tryd.growPt i _ hi hz (by rw [h1]; decide) none 0 0 n [] w (Nat.le_refl _) (by omega) (by rw [h2]; omega) (by omega) (by simp) (fun _ => rfl) (fun a h => by cases h)).mono ?_
    rintro e w' ⟨he, hw⟩
    obtain ⟨G, hG⟩ : ∃ G, grownCap w (0 + n) 0 33 = G := ⟨_, rfl⟩
    have hge := grownCap_ge w (0 + n) 0 33
    have hle := grownCap_le_maxLen w (0 + n) 0 33 (by unfold maxLen; omega)
    change e = .returned (.slice (some ⟨w.heap.size, 0, none⟩) 0 (grownCap w (0 + n) 0 33)) at he
    change w' = w.drew.alloc (.cells (([] : List Value).toArray ++ Builtin.zeroCells (PtV 0 0).cells (0 + n - 0) ++ Builtin.zeroCells (PtV 0 0).cells (grownCap w (0 + n) 0 33 - (0 + n))) 33) at hw
    rw [hG] at hge hle he hw
    subst he hw
    refine ⟨_, _, rfl, ⟨by simp [cellsE], .inr ⟨w.heap.size, _, _, rfl, Nat.le_refl _, heap_alloc_new w.drew _, Nat.zero_le _, hle, ?_, by simp [cellsE]⟩⟩, (Below.refl _ w).drew.alloc (Nat.le_refl _) _⟩
    simp only [Array.size_append, size_zeroCells, List.size_toArray, List.length_nil]
    have hc : (PtV 0 0).cells.size = 2 := rfl
    rw [hc]; omega
/-- What is laid behind j of both. -/
def catV (l m : List (Int × Int)) (j : Nat) : List (Int × Int) := if j = 0 then [] else if j = 1 then l else l ++ m
def CatS (a b : Nat) (n i : Value) : Prop := (i = .int .i64 0 ∧ n = .int .i64 0) ∨ (i = .int .i64 1 ∧ n = .int .i64 (a : Int)) ∨ (i = .int .i64 2 ∧ n = .int .i64 ((a : Int) + b))
set_option maxRecDepth 100000 in
set_option maxHeartbeats 4000000 in
theorem concat_any (g : Nat) (A A' : Option Addr) (c c' : Nat) (l m : List (Int × Int)) (w : World) (h0 : w.cell? ⟨g, 0, none⟩ = some (.slice A l.length c)) (h1 : w.cell? ⟨g, 1, none⟩ = some (.slice A' m.length c'))
    (hs : SeesE 2 encPoint w w.heap.size A l) (hs' : SeesE 2 encPoint w w.heap.size A' m) (hl : l.length ≤ 549755813888) (hm : m.length ≤ 549755813888) :
    Calls Tryd.prog 38 #[.slice (some ⟨g, 0, none⟩) 2 2] w (GivesE 2 encPoint 33 (l ++ m) w) := by
  have HS := Lib.hid hs; clear hs
  have HS' := Lib.hid hs'; clear hs'
  have HM : Hid ((l ++ m).length = l.length + m.length) := Lib.hid (by simp)
  go_enter Tryd.func38, Tryd.ntmps38
  go_wp2
  go_loop [3, 11] (fun n i => CatS l.length m.length n i) (fun _ i => 2 - (intOf i).toNat)
  case atStart => exact .inl ⟨rfl, rfl⟩
  case round =>
    rcases hrel with ⟨rfl, rfl⟩ | ⟨rfl, rfl⟩ | ⟨rfl, rfl⟩
    · go_wp2
      go_round
      case rel => exact .inr (.inl ⟨rfl, by go_num⟩)
      case measure => simp [intOf]
    · go_wp2
      go_round
      case rel => exact .inr (.inr ⟨rfl, by go_num⟩)
      case measure => simp [intOf]
    · have e : (l.length : Int) + m.length = ((l.length + m.length : Nat) : Int) := by omega
      rw [e]
      obtain ⟨q, hq⟩ : ∃ q, l.length + m.length = q := ⟨_, rfl⟩
      have hq2 : q ≤ 1099511627776 := by omega
      rw [hq]
      have HQ := Lib.hid hq
      clear e hq
      go_wp2_with fail
      refine (grow_any q w (by omega)).mono ?_
      rintro e w1 ⟨A1, c1, rfl, ho1, hb1⟩
      have HO1 := Lib.hid ho1; have HB1 := Lib.hid hb1
      have HW := Lib.hid hb1.size
      have g0 := (hb1.cell (World.block_lt_of_cell? _ _ h0)).trans h0
      have g1 := (hb1.cell (World.block_lt_of_cell? _ _ h1)).trans h1
      have hgl := World.block_lt_of_cell? _ _ h0
      have H0 := Lib.hid h0; have H1 := Lib.hid h1
      clear ho1 hb1 h0 h1
      go_wp2
      go_loopw [6, 27] (fun v i wr => ∃ (j : Nat) (A2 : Option Addr) (c2 : Nat) (L : List (Int × Int)), j ≤ 2 ∧ i = .int .i64 j ∧ Hid (L = catV l m j) ∧ v = .slice A2 L.length c2 ∧ OwnE 2 encPoint wr w.heap.size 33 v L ∧ Below w.heap.size w wr) (fun _ i _ => 2 - (intOf i).toNat)
      case atStart => exact ⟨0, A1, c1, [], by omega, rfl, Lib.hid rfl, rfl, HO1.out, HB1.out⟩
      case round =>
        obtain ⟨j, A2, c2, L, hj, rfl, hL, rfl, ho, hb⟩ := hrel
        have k0 := (hb.cell (World.block_lt_of_cell? _ _ H0.out)).trans H0.out
        have k1 := (hb.cell (World.block_lt_of_cell? _ _ H1.out)).trans H1.out
        have HO := Lib.hid ho; have HB := Lib.hid hb
        clear ho hb g0 g1 HO1 HB1
        by_cases hj0 : j = 0
        · subst hj0
          have e0 : L.length = 0 := by rw [hL.out]; rfl
          go_wp2_with (at_builtin; refine appPoint _ rfl _ _ rfl w.heap.size _ L rfl HO.out w.heap.size A l.length c l rfl rfl (HS.out.below HB.out) (by omega) HB.out.size ?_; intro A3 c3 L3 w3 hL3 h2 h3 ho3 hb3)
          go_roundw
          case rel => exact ⟨1, A3, c3, L3, by omega, by go_num, Lib.hid (by rw [hL3.out, hL.out]; rfl), rfl, ho3, HB.out.trans hb3⟩
          case measure => simp [intOf]
        · by_cases hj1 : j = 1
          · subst hj1
            have e0 : L.length = l.length := by rw [hL.out]; rfl
            go_wp2_with (at_builtin; refine appPoint _ rfl _ _ rfl w.heap.size _ L rfl HO.out w.heap.size A' m.length c' m rfl rfl (HS'.out.below HB.out) (by omega) HB.out.size ?_; intro A3 c3 L3 w3 hL3 h2 h3 ho3 hb3)
            go_roundw
            case rel => exact ⟨2, A3, c3, L3, by omega, by go_num, Lib.hid (by rw [hL3.out, hL.out]; rfl), rfl, ho3, HB.out.trans hb3⟩
            case measure => simp [intOf]
          · obtain rfl : j = 2 := by omega
            go_wp2
            go_ret
            exact ⟨A2, c2, L, Lib.hid (by rw [hL.out]; rfl), rfl, HO.out, HB.out⟩
/-- The points from the k-th on, and then those before it; all of them, if there is no k-th. -/
def rotV (l : List (Int × Int)) (k : Int) : List (Int × Int) := if inB k 0 ((l.length : Int) - 1) = true then l.drop k.toNat ++ l.take k.toNat else l
theorem concat_at (g n1 n2 : Nat) (A A' : Option Addr) (c c' : Nat) (l m : List (Int × Int)) (w : World) (e1 : l.length = n1) (e2 : m.length = n2) (h0 : w.cell? ⟨g, 0, none⟩ = some (.slice A n1 c)) (h1 : w.cell? ⟨g, 1, none⟩ = some (.slice A' n2 c'))
    (hs : SeesE 2 encPoint w w.heap.size A l) (hs' : SeesE 2 encPoint w w.heap.size A' m) (hl : n1 ≤ 549755813888) (hm : n2 ≤ 549755813888) :
    Calls Tryd.prog 38 #[.slice (some ⟨g, 0, none⟩) 2 2] w (GivesE 2 encPoint 33 (l ++ m) w) := by
  subst e1 e2; exact concat_any g A A' c c' l m w h0 h1 hs hs' hl hm
theorem SeesE.pre {α : Type} {n : Nat} {enc : α → List Value} {w : World} {B : Nat} {A : Option Addr} {l : List α} (h : SeesE n enc w B A l) (j : Nat) : SeesE n enc w B A (l.take j) := fun i x hi => by
  rw [List.getElem?_take] at hi
  split at hi
  · exact h i x hi
  · cases hi
theorem SeesE.suf {α : Type} {n : Nat} {enc : α → List Value} {w : World} {B : Nat} {A : Option Addr} {l : List α} (h : SeesE n enc w B A l) (j : Nat) (A' : Option Addr) (hA : j < l.length → A' = A.map (·.add (j * n))) : SeesE n enc w B A' (l.drop j) := by
  have := h.cut j (l.length - j) A' hA
  rwa [List.take_of_length_le (by simp)] at this
set_option maxRecDepth 100000 in
set_option maxHeartbeats 4000000 in
theorem rotateRing_any (A : Option Addr) (c : Nat) (l : List (Int × Int)) (k : Int) (w : World) (hs : SeesE 2 encPoint w w.heap.size A l) (hl : l.length ≤ 274877906944) (hlc : l.length ≤ c) (hc : (c : Int) ≤ 9223372036854775807) (hk : (Lit.int .i64 k).wf = true) :
    Calls Tryd.prog 14 #[.slice A l.length c, .int .i64 k] w (GivesE 2 encPoint 33 (rotV l k) w) := by
  have HS := Lib.hid hs; clear hs
  go_enter Tryd.func14, Tryd.ntmps14
  cases hin : inB k 0 ((l.length : Int) - 1)
  · have h0c : ¬ ((c : Int) < 0) := by omega
    have h0l : ¬ ((l.length : Int) < 0) := by omega
    go_wp2_with (first
      | (go_at_call 37; refine (in_is _ _ _ _ _ hin).mono ?_; rintro e w1 ⟨rfl, rfl⟩))
    have HR : Hid (l ++ [] = rotV l k) := Lib.hid (by unfold rotV; rw [if_neg (by rw [hin]; decide), List.append_nil])
    go_region_held3 (fun _ => True) (trivial) (first | (go_at_call 38; refine (concat_at w.heap.size l.length 0 A A c c l [] _ rfl rfl (cell_of_row _ _ 0 _ _ (0, 0) (heap_alloc_new w _)) (cell_of_row _ _ 1 _ _ (0, 0) (heap_alloc_new w _)) (HS.out.alloc (Nat.le_refl _) _ |>.drew |>.mono (by simp)) SeesE.nil (by omega) (by omega)).mono ?_; rintro e w1 ⟨A1, c1, L, hL, rfl, ho1, hb1⟩; have HO1 := Lib.hid ho1; have HB1 := Lib.hid hb1; have HL := hL) | fail)
    all_goals
      go_wp2
      go_ret
      exact ⟨A1, c1, L, Lib.hid (by rw [HL.out, HR.out]), rfl, HO1.out.mono (by simp), ((Below.refl _ w).alloc (Nat.le_refl _) _).drew.trans (HB1.out.mono (by simp))⟩
  · have hk' : 0 ≤ k ∧ k ≤ (l.length : Int) - 1 := by simpa [inB] using hin
    obtain ⟨j, rfl⟩ : ∃ j : Nat, k = (j : Int) := ⟨k.toNat, by omega⟩
    have hjl : j < l.length := by omega
    have hjl' : (j : Int) ≤ (l.length : Int) := by omega
    have hjc' : (j : Int) ≤ (c : Int) := by omega
    go_wp2_with (first
      | (go_at_call 37; refine (in_is _ _ _ _ _ hin).mono ?_; rintro e w1 ⟨rfl, rfl⟩))
    have b1 : (0 : Int) ≤ (j : Int) := by omega
    have b2 : ¬ ((j : Int) < 0) := by omega
    have b3 : ¬ ((c : Int) < (j : Int)) := by omega
    have b4 : ¬ ((l.length : Int) < (j : Int)) := by omega
    have hlc' : ¬ (c = j) := by omega
    have HA : Hid (SeesE 2 encPoint w w.heap.size (if c = j then A else Option.map (fun x => x.add (j * 2)) A) (l.drop j)) := Lib.hid (HS.out.suf j _ (fun _ => if_neg hlc'))
    have HT : Hid (SeesE 2 encPoint w w.heap.size A (l.take j)) := Lib.hid (HS.out.pre j)
    have E1 : Hid ((l.drop j).length = l.length - j) := Lib.hid (by simp)
    have E2 : Hid ((l.take j).length = j) := Lib.hid (by simp; omega)
    have HR : Hid (l.drop j ++ l.take j = rotV l j) := Lib.hid (by unfold rotV; rw [if_pos hin]; simp)
    clear hlc'
    go_region_held3 (fun _ => True) (trivial) (first | (go_at_call 38; refine (concat_at w.heap.size (l.length - j) j _ A (c - j) c (l.drop j) (l.take j) _ E1.out E2.out (cell_of_row _ _ 0 _ _ (0, 0) (heap_alloc_new w _)) (cell_of_row _ _ 1 _ _ (0, 0) (heap_alloc_new w _)) (HA.out.alloc (Nat.le_refl _) _ |>.drew |>.mono (by simp)) (HT.out.alloc (Nat.le_refl _) _ |>.drew |>.mono (by simp)) (by omega) (by omega)).mono ?_; rintro e w1 ⟨A1, c1, L, hL, rfl, ho1, hb1⟩; have HO1 := Lib.hid ho1; have HB1 := Lib.hid hb1; have HL := hL) | fail)
    all_goals
      go_wp2
      go_ret
      exact ⟨A1, c1, L, Lib.hid (by rw [HL.out, HR.out]), rfl, HO1.out.mono (by simp), ((Below.refl _ w).alloc (Nat.le_refl _) _).drew.trans (HB1.out.mono (by simp))⟩
end Go.Proofs.YtkeljibnjpinlaaDoor

/- Rings: a ring's segments meet in turn. -/
namespace Go.Proofs.YtkeljibnjpinlaaDoor
open Go.RowKit
set_option linter.unusedVariables false

theorem howS_ok {u v : Int × Int × Int × Int} (h : howS u v ≠ 0) : sOk u = true ∧ sOk v = true := by
  by_cases hh : isS u.1 u.2.1 u.2.2.1 u.2.2.2 = true ∧ isS v.1 v.2.1 v.2.2.1 v.2.2.2 = true
  · exact hh
  · exact absurd (how_no hh) h
theorem ite_iff {p q : Prop} [Decidable p] [Decidable q] (h : p ↔ q) {a b : Int} : (if p then a else b) = if q then a else b := by
  by_cases hp : p
  · rw [if_pos hp, if_pos (h.1 hp)]
  · rw [if_neg hp, if_neg (fun k => hp (h.2 k))]
theorem turn_cyc {S : List (Int × Int × Int × Int)} : turnV true S = true ↔ CycOk S := by
  unfold turnV
  rw [decide_eq_true_eq]
  constructor
  · intro h
    refine cycOk_of fun i k u v hu hv hk => ?_
    have := h i (List.getElem?_eq_some_iff.1 hu).1 k hk
    rw [prOk_at hv hu, beq_iff_eq, howS_comm] at this
    rw [this]
    unfold wantC
    have e : (k + 1 = i ∨ (true = true ∧ k = 0 ∧ i + 1 = S.length)) ↔ adjC S.length i k := by rw [show (true = true) = True from eq_self true, true_and]; unfold adjC; omega
    exact ite_iff e
  · intro h k hk i hi
    obtain ⟨u, hu⟩ : ∃ u, S[i]? = some u := ⟨_, List.getElem?_eq_getElem (by omega)⟩
    obtain ⟨v, hv⟩ : ∃ v, S[k]? = some v := ⟨_, List.getElem?_eq_getElem hk⟩
    rw [prOk_at hu hv, beq_iff_eq, h i k u v hu hv (by omega)]
    unfold wantC
    have e : adjC S.length i k ↔ (i + 1 = k ∨ (true = true ∧ i = 0 ∧ k + 1 = S.length)) := by rw [show (true = true) = True from eq_self true, true_and]; unfold adjC; omega
    exact ite_iff e
/-- It need not be asked whether each is valid. -/
theorem isRg_turn (l : List (Int × Int)) : isRg l = (inB l.length 3 10 && turnV true (rgS l)) := by
  rw [Bool.eq_iff_iff, isRg_iff, Bool.and_eq_true, turn_cyc]
  have hn := rgS_len l
  constructor
  · rintro ⟨h1, -, h3⟩
    exact ⟨by simp only [inB, decide_eq_true_eq]; omega, h3⟩
  · rintro ⟨h1, h3⟩
    have hl : 3 ≤ l.length ∧ l.length ≤ 10 := by simp only [inB, decide_eq_true_eq] at h1; omega
    refine ⟨hl, fun s hs => ?_, h3⟩
    obtain ⟨i, hi⟩ := List.getElem?_of_mem hs
    have hil := (List.getElem?_eq_some_iff.1 hi).1
    by_cases h0 : i = 0
    · obtain ⟨v, hv⟩ : ∃ v, (rgS l)[1]? = some v := ⟨_, List.getElem?_eq_getElem (by omega)⟩
      have := h3 i 1 s v hi hv (by omega)
      rw [if_pos (by unfold adjC; omega)] at this
      exact (howS_ok (by rw [this]; decide)).1
    · obtain ⟨v, hv⟩ : ∃ v, (rgS l)[i - 1]? = some v := ⟨_, List.getElem?_eq_getElem (by omega)⟩
      have := h3 i (i - 1) s v hi hv (by omega)
      rw [if_pos (by unfold adjC; omega)] at this
      exact (howS_ok (by rw [this]; decide)).1
theorem rotV_zero (l : List (Int × Int)) : rotV l 0 = l := by
  unfold rotV; split
  · simp
  · rfl
end Go.Proofs.YtkeljibnjpinlaaDoor

/- Lines: slices.AppendSeq over the iterator, and SegmentsOf of package impl. -/
namespace Go.Proofs.YtkeljibnjpinlaaDoor
open Go.ChangeShapes Go.WideShapes Go.ChangeAt Go.RowKit Go.Shelf
set_option linter.unusedVariables false
attribute [local go_sem] Oper.semAt_some

theorem newSeg_cells (W : World) (x : Int × Int × Int × Int) (T : TypeId) : ∀ j u, (encSegment x)[j]? = some u → (W.alloc (.cells (sC x) T)).cell? ((⟨W.heap.size, 0, none⟩ : Addr).add j) = some u := fun j u hu => by
  rw [add_none]
  have := (Laid.new W T (sC x)).cell (k := j) (v := u) (by rw [← hu]; exact List.getElem?_toArray)
  simpa using this
theorem cellsSeg_snoc (pre : List (Int × Int × Int × Int)) (x : Int × Int × Int × Int) : cellsE encSegment (pre ++ [x]) = cellsE encSegment pre ++ encSegment x := by rw [cellsE_app]; simp [cellsE]
set_option maxRecDepth 100000 in
set_option maxHeartbeats 4000000 in
theorem appendSeq_any (Bx M n0 c1 : Nat) (A1 : Option Addr) (l : List (Int × Int)) (v0 : Value) (w : World) (bA : Boxed w Bx 24 (.slice A1 l.length c1)) (hs : SeesE 2 encPoint w M A1 l) (hMn : M ≤ n0) (hn0 : n0 ≤ w.heap.size) (hl : l.length ≤ 1000)
    (ho : OwnE 4 encSegment w n0 60 v0 []) :
    Calls Tryd.prog 76 #[v0, .func (.func 77) #[] #[.pointer (some ⟨Bx, 0, none⟩)]] w fun e w' => ∃ v, e = .returned v ∧ OwnE 4 encSegment w' n0 60 v (jts l) ∧ Below n0 w w' := by
  have HO := Lib.hid ho
  refine (callsIn_wide (n := 8)).1 ?_
  refine callsIn_of_wp_marks Tryd.func76 rfl trivial ?_ rfl
  simp only [Tryd.ntmps76, List.size_toArray, List.length_cons, List.length_nil, Nat.reduceAdd, Nat.reduceSub, Array.replicate_succ, Array.replicate_zero, List.push_toArray, List.append_toArray, List.nil_append, List.cons_append]
  have hBl := bA.lt
  have hv1 : v0.oneCell' = true := by obtain ⟨A, c, rfl, -⟩ := OwnE.form ho; rfl
  gi_wp2
  have bS := Boxed.new w 38 v0
  have bA := bA.alloc (.cells #[v0] 38)
  have hB0 : Below n0 w (w.alloc (.cells #[v0] 38)) := (Below.refl _ w).alloc hn0 _
  have hs0 := hs.alloc (Nat.le_trans hMn hn0) (.cells #[v0] 38)
  have ho0 := HO.out.alloc (.cells #[v0] 38)
  have hsz : (w.alloc (.cells #[v0] 38)).heap.size = w.heap.size + 1 := by simp
  obtain ⟨W0, hW0⟩ : ∃ W0, w.alloc (.cells #[v0] 38) = W0 := ⟨_, rfl⟩
  rw [hW0] at bS bA hB0 hsz hs0 ho0 ⊢
  clear hW0
  obtain ⟨i0, hi, hz0, hz1, hz2⟩ := info_parts infoSegment
  refine wpIn_rangeFunc_ownH rfl (by omega) (gf := 77) (lb := #[.pointer (some ⟨Bx, 0, none⟩)]) rfl trivial (enters_of Tryd.func77 (by kernel_rfl) rfl)
    (joints_stops (8 - 1) (by omega) Bx M (fun k => k < M ∨ k = Bx) A1 c1 l (by omega) W0 bA.lt (by omega) (.inr rfl) (fun _ h => .inl h) bA.cell hs0) KpS.t (KpS.book (by intro k hk; have := bA.lt; omega)) (Below.refl _ _) (fun _ => rfl)
    (fun pre W => ((∃ v, Boxed W w.heap.size 38 v ∧ W.ownsRow n0 60 4 v pre.length (cellsE encSegment pre) ∧ True) ∧ Boxed W Bx 24 (.slice A1 l.length c1)) ∧ Below n0 w W)
    (fun _ _ _ => False)
    (OwnFrom.and (OwnFrom.and (Own.from (holdsRow_own n0 w.heap.size 38 60 4 (fun pre => pre.length) (fun pre => cellsE encSegment pre) (fun _ _ => True)) _) (Own.from (boxed_own _ _ _) _)) (ownFrom_below hn0 (by omega)))
    (fun cc _ _ _ _ hs _ _ => hs)
    ⟨⟨⟨v0, bS, ho0, trivial⟩, bA⟩, hB0⟩
    (fun x a' W => ∃ By, w.heap.size < By ∧ Laid W By 60 (sC x) ∧ a' = { tmps := #[v0, .func (.func 77) #[] #[.pointer (some ⟨Bx, 0, none⟩)], .pointer (some ⟨w.heap.size, 0, none⟩), undef, .slice none 0 0, .pointer (some ⟨By, 0, none⟩), .func (.func 77) #[] #[.pointer (some ⟨Bx, 0, none⟩)], sV x, undef, undef, undef, undef, undef], defers := [] })
    (fun x a' _ X Y row hs hg hr => by obtain ⟨Bx, h1, h2, h3⟩ := hs; exact ⟨Bx, h1, laid_own Bx 60 (fun (_ : Unit) => sC x) () X Y row h2 hg (fun r e => (hr r e).2), h3⟩)
    ?assign ?body ?done ?stop
  case assign =>
    rintro y pre x W K ⟨⟨⟨v, bS1, hr1, -⟩, bA1⟩, hB1⟩ hK
    gi_wp2
    exact hK _ _ ((KeepsOthers.alloc _ _).from _) (KpS.alloc _ _) ⟨⟨⟨v, bS1.alloc _, hr1.alloc _, trivial⟩, bA1.alloc _⟩, hB1.alloc (Nat.le_trans hn0 (by have := bS1.lt; omega)) _⟩ ⟨W.heap.size, bS1.lt, Laid.new W _ _, rfl⟩
  case body =>
    rintro y pre x a' W hy hr ⟨⟨⟨v, hv, hrow, -⟩, bA1⟩, hB1⟩ ⟨By, hBy, bX, rfl⟩ hlt
    obtain ⟨x0, x1, x2, x3⟩ := bX.c4
    have hc := hv.cell
    have hnW : n0 ≤ W.heap.size := Nat.le_trans hn0 (by have := hv.lt; omega)
    have hpl : pre.length ≤ 1000 := by rw [jts_len] at hlt; omega
    gi_wp2_with (gi_at_builtin; refine wpListIn_append_own _ rfl _ _ 38 rfl n0 60 i0 _ 4 32 Tryd.underlying38 hi hz0 hz1 hz2 rfl (by decide) _ _ _ rfl (hrow.alloc _) ⟨W.heap.size, 0, none⟩ 1 1 (encSegment x) rfl rfl (newSeg_cells _ _ _) (elSegment.2 x).2 (by simp only [maxLen]; omega) (by omega) (by simp; omega) ?_; intro v' w1 hown' hgrow _; obtain ⟨g', cap', rfl⟩ := ownsRow_succ hown'; obtain ⟨hv1, hv2, hr2, hk2, hb2⟩ := hv.appended (by decide) hrow hnW hn0 hown' hgrow; have hc1 := hv1.cell; have hf1 := hv1.frozen)
    refine ⟨hk2.from _, ((KpS.alloc W _).trans (KpS.grown hgrow fun k e hk => ?_)).trans (KpS.setCell _ _ _ fun hk => ?_), ⟨⟨_, hv2, ?_, trivial⟩, ((bA1.alloc _).kept hgrow (bA1.not_row (by decide) hrow)).other (by omega) _⟩, hB1.trans hb2⟩
    · have h1 := (World.ownsRow.lt hrow k e).1
      rcases hk with hk | hk
      · omega
      · subst hk; exact bA1.not_row (by decide) hrow e.symm
    · dsimp only at hk; omega
    · rw [cellsSeg_snoc, List.length_append]; exact hr2
  case done =>
    rintro D zs W hD rfl ⟨⟨⟨v, hv, hrow, -⟩, bA1⟩, hB1⟩ hK
    have hc := hv.cell
    gi_wp2
    refine ⟨by simp, .inl ⟨_, _, rfl, run_takeDeferred hK, ?_⟩⟩
    exact ⟨_, results_tmp rfl _ _ _, v, rfl, ownsRow_putObj hrow _ hK rfl, hB1.trans (belowK_b (w := w) hn0 W D _ _ (by omega) hK rfl rfl)⟩
  case stop =>
    rintro D cc pre W _ _ h _
    exact h.elim
end Go.Proofs.YtkeljibnjpinlaaDoor

/- errors.Is at a sentinel of errors.New's make: the sentinel itself, and nil. -/
namespace Go.Proofs.YtkeljibnjpinlaaDoor
open Go.RowKit Go.Extern.Stop Go.Stop Go.Extern

theorem isTypeOf (v : Value) (w : World) : (Extern.ReflectliteType.typeOf #[.iface 153 v]).run Tryd.prog w = .ok (.iface 103 (.agg #[.pointer (some ⟨1, 153, none⟩)])) w := by kernel_rfl
theorem isComparable (w : World) : ((Extern.ReflectliteType.method fun t => do Extern.Rtype.noPackHeld "Comparable" t; pure (Value.bool (← typeInfo t).comparable)) #[.agg #[.pointer (some ⟨1, 153, none⟩)]]).run Tryd.prog w = .ok (.bool true) w := by kernel_rfl
theorem compCall (w : World) : (callFunc 128 #[.agg #[.pointer (some ⟨1, 153, none⟩)]]).run Tryd.prog w = .ok (.value (.bool true)) w := by
  have h := @run_callFunc_extern Tryd.prog 128 _ (Extern.ReflectliteType.method fun t => do Extern.Rtype.noPackHeld "Comparable" t; pure (Value.bool (← typeInfo t).comparable)) Tryd.func128 (by kernel_rfl) (by kernel_rfl) (by kernel_rfl) (by kernel_rfl)
  rw [h, isComparable]; rfl
set_option maxRecDepth 100000 in
theorem isMethodComparable (v : Value) (w : World) : (Go.method 290 103 v "Comparable").run Tryd.prog w = .ok (128, v) w := by kernel_rfl
theorem isComp : (Tryd.prog.info? 153).map (·.comparable) = some true := by kernel_rfl
theorem isSize : (Tryd.prog.info? 178).map (·.size) = some 1 := by kernel_rfl
-- errors.Is(x, x), x a pointer to an errors.errorString.
set_option maxRecDepth 100000 in
theorem is_same (a : Addr) (w : World) :
    Calls Tryd.prog 35 #[.iface 153 (.pointer (some a)), .iface 153 (.pointer (some a))] w fun e w' => e = .returned (.bool true) ∧ w' = w := by
  obtain ⟨i, hi, hcmp⟩ := Option.map_eq_some_iff.1 isComp
  obtain ⟨j, hj, hjs⟩ := Option.map_eq_some_iff.1 isSize
  have h8 := @run_callFunc_extern Tryd.prog 58 _ Extern.ReflectliteType.typeOf Tryd.func58 (by kernel_rfl) (by kernel_rfl) (by kernel_rfl) (by kernel_rfl)
  have tT := isTypeOf
  have cT := compCall
  have mR := isMethodComparable
  have heq := run_eql_iface_ptr_same (P := Tryd.prog) w a Tryd.underlying55 Tryd.underlying153 hi hcmp hj
  go_enter Tryd.func35, Tryd.ntmps35
  go_wp2
  refine wp_loop_rounds 1 ?_
  rw [rounds_succ]
  go_wp2
  go_ret
  exact ⟨rfl, rfl⟩
-- errors.Is(nil, x).
set_option maxRecDepth 100000 in
theorem is_nil (b : Addr) (w : World) :
    Calls Tryd.prog 35 #[.nilIface, .iface 153 (.pointer (some b))] w fun e w' => e = .returned (.bool false) ∧ w' = w := by
  have hn := run_eql_iface_nil_left (P := Tryd.prog) w 153 (.pointer (some b)) Tryd.underlying55
  go_enter Tryd.func35, Tryd.ntmps35
  go_wp2
  go_ret
  exact ⟨rfl, rfl⟩
end Go.Proofs.YtkeljibnjpinlaaDoor
