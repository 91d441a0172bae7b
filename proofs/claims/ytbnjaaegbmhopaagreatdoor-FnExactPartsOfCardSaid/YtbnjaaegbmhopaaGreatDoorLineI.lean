/- Lines: the iterator over the segments (impl), and IsLine. -/
import Derived.RangeFuncNested
import Derived.RangeFuncBound
import Derived.RangeFuncCalls
import Derived.RangeFuncLeaves
import Derived.Shelf.Abstract
import Derived.Shelf.RegionOpen
import Derived.WalkKit
import Derived.OwnWalkIn
import Derived.TacticsInMore
import Derived.LoopNIn
import Derived.LoopIn
import Derived.Stop.RegionWithIn
import Derived.Test.YtbnjaaegbmhopaaGreatDoorLine
import Derived.Test.YtbnjaaegbmhopaaGreatDoorHelpE
import Derived.Test.YtbnjaaegbmhopaaGreatDoorSegCall
namespace Go.Proofs.YtbnjaaegbmhopaaGreatDoor
open Go.ChangeShapes Go.WideShapes Go.ChangeAt Go.RowKit Go.Shelf
set_option linter.unusedVariables false
attribute [local go_sem] Oper.semAt_some

/-- The blocks of p lie as they lay. -/
def KpS (p : Nat → Prop) (W W' : World) : Prop := W.heap.size ≤ W'.heap.size ∧ ∀ k o, p k → W.heap[k]? = some o → W'.heap[k]? = some o
section
variable {p : Nat → Prop} {A B C W W' : World}
theorem KpS.refl (W : World) : KpS p W W := ⟨Nat.le_refl _, fun _ _ _ h => h⟩
theorem KpS.trans (h : KpS p A B) (k : KpS p B C) : KpS p A C := ⟨Nat.le_trans h.1 k.1, fun i o hp ho => k.2 i o hp (h.2 i o hp ho)⟩
theorem KpS.alloc (W : World) (o : Obj) : KpS p W (W.alloc o) := ⟨by simp, fun k o' _ hk => (Below.heap_alloc W o k (Array.getElem?_eq_some_iff.1 hk).1).trans hk⟩
theorem KpS.setCell (W : World) (a : Addr) (v : Value) (h : ¬ p a.block) : KpS p W (W.setCell a v) :=
  ⟨(KeepsWalks.setCell W a v).size, fun k o hp hk => (Below.heap_setCell W a v k (fun e => h (by subst e; exact hp))).trans hk⟩
theorem KpS.drew (W : World) : KpS p W W.drew := ⟨Nat.le_refl _, fun _ _ _ h => h⟩
theorem KpS.of_below {n : Nat} (h : Below n W W') (hp : ∀ k, p k → k < W.heap.size → k < n) : KpS p W W' :=
  ⟨h.size, fun k o hk ho => (h.block k (hp k hk (Array.getElem?_eq_some_iff.1 ho).1)).trans ho⟩
theorem KpS.of_call (h : Below W.heap.size W W') : KpS p W W' := KpS.of_below h fun _ _ h => h
theorem KpS.grown {r : Option Nat} (h : W.grownBy W' r) (hp : ∀ k, r = some k → ¬ p k) : KpS p W W' :=
  ⟨h.size, fun k o hk ho => (h.block k (Array.getElem?_eq_some_iff.1 ho).1 (fun e => hp k e.symm hk)).trans ho⟩
theorem KpS.mono {q : Nat → Prop} (h : KpS p A B) (hq : ∀ k, q k → p k) : KpS q A B := ⟨h.1, fun k o hk ho => h.2 k o (hq k hk) ho⟩
theorem KpS.cell (h : KpS p W W') {a : Addr} {v : Value} (hp : p a.block) (hc : W.cell? a = some v) : W'.cell? a = some v := by
  obtain ⟨o, ho, _⟩ := cells_of_cell hc
  exact (World.cell?_of_block ((h.2 _ o hp ho).trans ho.symm)).trans hc
/-- The law's book-keeping: a block from N on. -/
theorem KpS.book {N : Nat} (hp : ∀ k, p k → k < N) (W : World) (l : Nat) (o o' : Obj) (hl : N ≤ l) (h : W.heap[l]? = some o) (_ : o.isCells = false) (_ : o.isWalk = false) : KpS p W (W.putObj l o') :=
  ⟨by simp [World.putObj], fun k u hk hu => (World.putObj_heap_other (fun e => by have := hp k hk; omega)).trans hu⟩
theorem SeesE.kp {α : Type} {n : Nat} {enc : α → List Value} {M : Nat} {P : Option Addr} {l : List α} (h : SeesE n enc W M P l) (hk : KpS p W W') (hp : ∀ k, k < M → p k) : SeesE n enc W' M P l := fun j x hj => by
  obtain ⟨b, off, e, hb, hc⟩ := h j x hj
  exact ⟨b, off, e, hb, fun i v hv => hk.cell (a := ⟨b, off + j * n + i, none⟩) (hp b hb) (hc i v hv)⟩
end
theorem KeepsOthers.of_call {W W' : World} (h : Below W.heap.size W W') : KeepsOthers W W' := ⟨h.size, fun k o hk _ => (h.block k (Array.getElem?_eq_some_iff.1 hk).1).trans hk⟩
theorem KeepsOthers.drew' (W : World) : KeepsOthers W W.drew := ⟨Nat.le_refl _, fun _ _ h _ => h⟩
theorem abides_drew {β : Type} {B : Nat} {J : β → World → Prop} (h : AbidesFrom B J) {s : β} {W : World} (hs : J s W) : J s W.drew := h s W W.drew none hs ⟨rfl, rfl, rfl, Nat.le_refl _, fun _ _ _ => rfl⟩ (fun r e => by cases e)

theorem RoundIn.mono' {F : Fence} {n : Nat} {P : Program} {y fn : Nat} {tmps : Array Value} {assign body : Go.Code} {W : World} {X Y : World → Prop}
    (h : RoundIn F n P y fn tmps assign body W fun e W' => (e = .returned (.bool true) ∧ X W') ∨ (e = .returned (.bool false) ∧ Y W')) :
    RoundIn F n P y fn tmps assign body W fun e W' => ∃ b : Bool, e = .returned (.bool b) ∧ if b then X W' else Y W' :=
  h.mono fun e W' h => h.elim (fun h => ⟨true, h.1, by simpa using h.2⟩) (fun h => ⟨false, h.1, by simpa using h.2⟩)
theorem jts_succ {α : Type} {L : List α} {k : Nat} {x : α} (h : L[k]? = some x) : L.take k ++ [x] = L.take (k + 1) := by rw [List.take_add_one, h]; rfl
theorem jts_pre {α : Type} {L : List α} {k : Nat} {x : α} (h : L[k]? = some x) : L.take k ++ [x] <+: L := by rw [jts_succ h]; exact List.take_prefix _ _
set_option maxRecDepth 100000 in
set_option maxHeartbeats 4000000 in
/-- jointsOf's iterator, for every loop body that keeps what lies in the blocks of p. -/
theorem joints1_in (n : Nat) (hn : 1 ≤ n) (y Bs M n0 : Nat) (p : Nat → Prop) (A : Option Addr) (c : Nat) (l : List (Int × Int)) (J Jx : List (Int × Int × Int × Int) → World → Prop)
    (hJ : AbidesFrom n0 J) (hp : p Bs) (hpM : ∀ k, k < M → p k) (hl : l.length ≤ 1099511627776)
    (hY : ∀ pre x W, J pre W → pre.length < (jts l).length → YieldAt Fence.wide (n - 1) Tryz.prog y #[sV x] W fun e W' =>
      (e = .returned (.bool true) ∧ J (pre ++ [x]) W' ∧ KpS p W W') ∨ (e = .returned (.bool false) ∧ Jx (pre ++ [x]) W'))
    (W : World) (hBs : W.cell? ⟨Bs, 0, none⟩ = some (.slice A l.length c)) (hs : SeesE 2 encPoint W M A l) (h0 : J [] W) :
    CallsIn Fence.wide n Tryz.prog 115 #[.func (.yield y) #[] #[], .pointer (some ⟨Bs, 0, none⟩)] W fun e W' => (∃ v, e = .returned v) ∧
      ((∃ ys, ys = jts l ∧ J ys W') ∨ (∃ pre, pre <+: jts l ∧ Jx pre W')) := by
  refine callsIn_of_wp Tryz.func115 rfl trivial ?_ rfl
  simp only [Tryz.ntmps115, List.size_toArray, List.length_cons, List.length_nil, Nat.reduceAdd, Nat.reduceSub, Array.replicate_succ, Array.replicate_zero, List.push_toArray, List.append_toArray, List.nil_append, List.cons_append]
  have HS := Lib.hid hs; clear hs
  gi_wp2
  gi_loopw [3] (fun i wr => ∃ k : Nat, i = .int .i64 ((k : Int) + 1) ∧ k ≤ (jts l).length ∧ J ((jts l).take k) wr ∧ KpS p W wr)
    (fun i _ => l.length - (intOf i).toNat)
  case atStart => exact ⟨0, rfl, Nat.zero_le _, h0, KpS.refl _⟩
  case round =>
    obtain ⟨k, rfl, hk, hJs, hkp⟩ := hrel
    have hb1 := hkp.cell (a := ⟨Bs, 0, none⟩) hp hBs
    have hjl := jts_len l
    by_cases hlt : k + 1 < l.length
    · obtain ⟨a, b, c', d, g1, g2, g3⟩ := jts_at hlt
      obtain ⟨B, off, rfl, hBM, -⟩ := HS.out k _ g1
      obtain ⟨c1, c2⟩ := cellsPoint (HS.out.kp hkp hpM) g1
      obtain ⟨c3, c4⟩ := cellsPoint (HS.out.kp hkp hpM) g2
      obtain ⟨fn, tmps, assign, body, hy, hR⟩ := hY _ (a, b, c', d) wr.drew (abides_drew hJ hJs) (by rw [List.length_take]; omega)
      change (Instr.yield y #[.agg #[.int .i64 a, .int .i64 b, .int .i64 c', .int .i64 d]]).run _ _ = _ at hy
      have HJ := Lib.hid hJs; clear hJs
      have HK := Lib.hid hkp; clear hkp
      have G3 := Lib.hid g3; clear g3
      clear g1 g2
      gi_wp2
      have hR' := RoundIn.mono' hR
      have hw : IntKind.i64.wrap (k : Int) = k := IntWalk.i64_in _ (by omega)
      gi_region_with (with_reducible refine RoundIn.mono hR' ?_; rintro e W3 ⟨bb, rfl, hout⟩; have HO := Lib.hid hout; clear hout)
      all_goals
        cases bb
        · have hx := HO.out
          simp only [Bool.false_eq_true, if_false] at hx
          gi_wp2
          refine bodyPost_ret (results_none rfl _ _ _) rfl ?_
          exact ⟨⟨_, rfl⟩, .inr ⟨_, jts_pre G3.out, hx⟩⟩
        · have hx := HO.out
          simp only [if_true] at hx
          obtain ⟨hj3, hk3⟩ := hx
          have HJ3 := Lib.hid hj3
          have HK3 := Lib.hid (HK.out.trans ((KpS.drew _).trans hk3))
          clear hj3 hk3 HO HJ
          gi_wp2
          go_roundw
          case rel => exact ⟨k + 1, by go_num, by omega, by rw [← jts_succ G3.out]; exact HJ3.out, HK3.out⟩
          case measure => simp [intOf]; omega
    · gi_wp2
      go_end0
      have e : k = (jts l).length := by omega
      subst e
      exact ⟨⟨_, rfl⟩, .inl ⟨_, rfl, by rw [List.take_length] at hJs; exact hJs⟩⟩
end Go.Proofs.YtbnjaaegbmhopaaGreatDoor
