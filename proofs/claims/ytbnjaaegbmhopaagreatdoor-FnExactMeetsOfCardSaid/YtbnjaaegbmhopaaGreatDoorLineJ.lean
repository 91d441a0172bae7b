/- Lines: the iterator's contract, jointsOf, IsLine and walkLine of package impl. -/
import Derived.Test.YtbnjaaegbmhopaaGreatDoorLineI
namespace Go.Proofs.YtbnjaaegbmhopaaGreatDoor
open Go.ChangeShapes Go.WideShapes Go.ChangeAt Go.RowKit Go.Shelf
set_option linter.unusedVariables false
attribute [local go_sem] Oper.semAt_some

/-- Block B holds the cells cs. -/
def Laid (W : World) (B : Nat) (t : TypeId) (cs : Array Value) : Prop := W.heap[B]? = some (.cells cs t (0, 0))
section
variable {W W' : World} {B C : Nat} {t : TypeId} {cs : Array Value}
theorem Laid.lt (h : Laid W B t cs) : B < W.heap.size := (Array.getElem?_eq_some_iff.1 h).1
theorem Laid.cell (h : Laid W B t cs) {k : Nat} {v : Value} (hv : cs[k]? = some v) : W.cell? ⟨B, k, none⟩ = some v := by simp [World.cell?, show W.heap[B]? = _ from h, hv]
theorem Laid.frozen (h : Laid W B t cs) (k : Nat) : W.frozen? ⟨B, k, none⟩ = false := by simp [World.frozen?, show W.heap[B]? = _ from h]
theorem Laid.new (W : World) (t : TypeId) (cs : Array Value) : Laid (W.alloc (.cells cs t)) W.heap.size t cs := World.alloc_heap_new W _
theorem Laid.kept {row : Option Nat} (h : Laid W B t cs) (hg : W.grownBy W' row) (hne : some B ≠ row) : Laid W' B t cs := (hg.block B h.lt hne).trans h
theorem Laid.alloc (h : Laid W B t cs) (o : Obj) : Laid (W.alloc o) B t cs := h.kept (World.grownBy_alloc W o none) (by simp)
theorem Laid.below (h : Laid W B t cs) (hb : Below C W W') (hB : B < C) : Laid W' B t cs := (hb.block B hB).trans h
theorem Laid.call (h : Laid W B t cs) (hb : Below W.heap.size W W') : Laid W' B t cs := h.below hb h.lt
theorem Laid.drew (h : Laid W B t cs) : Laid W.drew B t cs := h
end
theorem laid_own {β : Type} (B : Nat) (t : TypeId) (f : β → Array Value) : _root_.Go.Own (fun s W => Laid W B t (f s)) := fun s X Y row hs hg hr =>
  Laid.kept hs hg (fun e => by obtain ⟨o, ho, hc⟩ := hr B e.symm; have hs' : X.heap[B]? = _ := hs; rw [hs'] at ho; injection ho with ho; subst ho; cases hc)
theorem boxed_call {W W' : World} {B : Nat} {t : TypeId} {v : Value} (h : Boxed W B t v) (hb : Below W.heap.size W W') : Boxed W' B t v := (hb.block B h.lt).trans h
theorem boxed_below {W W' : World} {B C : Nat} {t : TypeId} {v : Value} (h : Boxed W B t v) (hb : Below C W W') (hB : B < C) : Boxed W' B t v := (hb.block B hB).trans h
theorem boxed_drew {W : World} {B : Nat} {t : TypeId} {v : Value} (h : Boxed W B t v) : Boxed W.drew B t v := h
/-- A segment's cells. -/
abbrev sC (s : Int × Int × Int × Int) : Array Value := #[.int .i64 s.1, .int .i64 s.2.1, .int .i64 s.2.2.1, .int .i64 s.2.2.2]
theorem Laid.c4 {W : World} {B : Nat} {t : TypeId} {s : Int × Int × Int × Int} (h : Laid W B t (sC s)) :
    W.cell? ⟨B, 0, none⟩ = some (.int .i64 s.1) ∧ W.cell? ⟨B, 1, none⟩ = some (.int .i64 s.2.1) ∧ W.cell? ⟨B, 2, none⟩ = some (.int .i64 s.2.2.1) ∧ W.cell? ⟨B, 3, none⟩ = some (.int .i64 s.2.2.2) :=
  ⟨h.cell rfl, h.cell rfl, h.cell rfl, h.cell rfl⟩

theorem joints_stops (n : Nat) (hn : 1 ≤ n) (Bs M : Nat) (p : Nat → Prop) (A : Option Addr) (c : Nat) (l : List (Int × Int)) (hl : l.length ≤ 1099511627776) (w : World) (hBs : Bs < w.heap.size) (hM : M ≤ w.heap.size) (hp : p Bs) (hpM : ∀ k, k < M → p k)
    (hc : w.cell? ⟨Bs, 0, none⟩ = some (.slice A l.length c)) (hs : SeesE 2 encPoint w M A l) :
    SeqStopsK Fence.wide n Tryz.prog 115 #[.pointer (some ⟨Bs, 0, none⟩)] (fun x => #[sV x]) (KpS p) (fun ys => ys = jts l) (fun pre => pre <+: jts l) (jts l).length w := fun y J Jx W hW hJ _ hY h0 => by
  have hc' := (hW.cell (p := ⟨Bs, 0, none⟩) hBs).trans hc
  exact joints1_in n hn y Bs M W.heap.size p A c l J Jx hJ hp hpM hl hY W hc' (hs.below (hW.mono hM)) h0
theorem jointsOf_any (A : Option Addr) (m c : Nat) (w : World) :
    Calls Tryz.prog 77 #[.slice A m c] w fun e w' => e = .returned (.func (.func 115) #[] #[.pointer (some ⟨w.heap.size, 0, none⟩)]) ∧ w.alloc (.cells #[.slice A m c] 24) = w' := by
  go_enter Tryz.func77, Tryz.ntmps77
  go_wp2
  go_ret
  exact ⟨rfl, rfl⟩
theorem KpS.t {p : Nat → Prop} {A B C : World} (h : KpS p A B) (k : KpS p B C) : KpS p A C := h.trans k
theorem allS_snoc {pre : List (Int × Int × Int × Int)} {x : Int × Int × Int × Int} (h : ∀ s ∈ pre, sOk s = true) (hx : sOk x = true) : ∀ s ∈ pre ++ [x], sOk s = true := fun s hs =>
  (List.mem_append.1 hs).elim (h s) (fun e => by simp at e; subst e; exact hx)
theorem sOk_SegV (s : Int × Int × Int × Int) (k : Bool) (w : World) (h : sOk s = k) : Calls Tryz.prog 156 #[sV s] w fun e w' => e = .returned (.bool k) ∧ Below w.heap.size w w' :=
  isSegment_is _ _ _ _ k w h
set_option maxRecDepth 100000 in
set_option maxHeartbeats 4000000 in
theorem isLine_is (A : Option Addr) (c : Nat) (l : List (Int × Int)) (w : World) (hs : SeesE 2 encPoint w w.heap.size A l) (hl : l.length ≤ 1099511627776) (z : Bool) (hz : isLn l = z) :
    Calls Tryz.prog 137 #[.slice A l.length c] w fun e w' => e = .returned (.bool z) ∧ Below w.heap.size w w' := by
  have HS := Lib.hid hs; clear hs
  have HZ := Lib.hid hz; clear hz
  refine (callsIn_wide (n := 8)).1 ?_
  refine callsIn_of_wp_marks Tryz.func137 rfl trivial ?_ rfl
  simp only [Tryz.ntmps137, List.size_toArray, List.length_cons, List.length_nil, Nat.reduceAdd, Nat.reduceSub, Array.replicate_succ, Array.replicate_zero, List.push_toArray, List.append_toArray, List.nil_append, List.cons_append]
  cases hin : inB l.length 2 10
  · obtain rfl : z = false := HZ.out.symm.trans (by rw [isLn, hin, Bool.false_and])
    have bR := Boxed.new w 4 (.bool false)
    have cR := bR.cell
    gi_wp2_with (refine ⟨trivial, ?_⟩; gi_at_call 48; refine (callsIn_wide.2 (in_is _ _ _ _ _ hin)).mono ?_; rintro e w' ⟨rfl, rfl⟩)
    refine ⟨.bool false, ?_, rfl, (Below.refl _ w).alloc (Nat.le_refl _) _⟩
    simp [results, Tryz.f137, go_sem, cR]
  · gi_wp2_with (first
      | (refine ⟨trivial, ?_⟩; gi_at_call 48; refine (callsIn_wide.2 (in_is _ _ _ _ _ hin)).mono ?_; rintro e w' ⟨rfl, rfl⟩)
      | (refine ⟨trivial, ?_⟩; gi_at_call 77; refine (callsIn_wide.2 (jointsOf_any _ _ _ _)).mono ?_; rintro e w' ⟨rfl, rfl⟩))
    have bR := (Boxed.new w 4 (.bool false)).alloc (.cells #[.slice A l.length c] 24)
    have bA := Boxed.new (w.alloc (.cells #[.bool false] 4)) 24 (.slice A l.length c)
    simp only [World.size_alloc] at bA
    have hB0 : Below w.heap.size w ((w.alloc (.cells #[.bool false] 4)).alloc (.cells #[.slice A l.length c] 24)) := ((Below.refl _ w).alloc (Nat.le_refl _) _).alloc (by simp) _
    have hsz : ((w.alloc (.cells #[.bool false] 4)).alloc (.cells #[.slice A l.length c] 24)).heap.size = w.heap.size + 2 := by simp
    obtain ⟨W0, hW0⟩ : ∃ W0, (w.alloc (.cells #[.bool false] 4)).alloc (.cells #[.slice A l.length c] 24) = W0 := ⟨_, rfl⟩
    rw [hW0] at bR bA hB0 hsz ⊢
    clear hW0
    refine wpIn_rangeFunc_ownH rfl (by omega) (gf := 115) (lb := #[.pointer (some ⟨w.heap.size + 1, 0, none⟩)]) rfl trivial (enters_of Tryz.func115 (by kernel_rfl) rfl)
      (joints_stops (8 - 1) (by omega) (w.heap.size + 1) w.heap.size (fun k => k < w.heap.size ∨ k = w.heap.size + 1) A c l hl W0 (by omega) (by omega) (.inr rfl) (fun _ h => .inl h) bA.cell (HS.out.below hB0)) KpS.t (KpS.book (by intro k hk; omega)) (Below.refl _ _) (fun _ => rfl)
      (fun pre W => ((∀ s ∈ pre, sOk s = true) ∧ Boxed W w.heap.size 4 (.bool false)) ∧ Below w.heap.size w W)
      (fun cc pre W => ((cc = .ret ∧ ∃ s ∈ pre, sOk s = false) ∧ Boxed W w.heap.size 4 (.bool false)) ∧ Below w.heap.size w W)
      (OwnFrom.and (OwnFrom.and (ownFrom_pure _ _) (Own.from (boxed_own _ _ _) _)) (ownFrom_below (Nat.le_refl _) (by omega)))
      (fun cc => OwnFrom.and (OwnFrom.and (ownFrom_pure _ _) (Own.from (boxed_own _ _ _) _)) (ownFrom_below (Nat.le_refl _) (by omega)))
      ⟨⟨by simp, bR⟩, hB0⟩
      (fun x a' W => ∃ Bx, w.heap.size < Bx ∧ Laid W Bx 78 (sC x) ∧ a' = { tmps := #[.slice A l.length c, undef, .pointer (some ⟨w.heap.size, 0, none⟩), .pointer (some ⟨Bx, 0, none⟩), .slice A l.length c, .int .i64 l.length, .bool true, .bool false, .slice A l.length c, .func (.func 115) #[] #[.pointer (some ⟨w.heap.size + 1, 0, none⟩)], sV x, undef, undef, undef], defers := [] })
      (fun x a' _ X Y row hs hg hr => by obtain ⟨Bx, h1, h2, h3⟩ := hs; exact ⟨Bx, h1, laid_own Bx 78 (fun (_ : Unit) => sC x) () X Y row h2 hg (fun r e => (hr r e).2), h3⟩)
      ?assign ?body ?done ?stop
    case assign =>
      rintro y pre x W K ⟨⟨hp, bR1⟩, hB1⟩ hK
      gi_wp2
      exact hK _ _ ((KeepsOthers.alloc _ _).from _) (KpS.alloc _ _) ⟨⟨hp, bR1.alloc _⟩, hB1.alloc hB1.size _⟩ ⟨W.heap.size, bR1.lt, Laid.new W _ _, rfl⟩
    case body =>
      rintro y pre x a' W hy hr ⟨⟨hp, bR1⟩, hB1⟩ ⟨Bx, hBx, bX, rfl⟩ hlt
      obtain ⟨x0, x1, x2, x3⟩ := bX.c4
      have HB1 := Lib.hid hB1
      have BR := Lib.hid bR1
      have HP := Lib.hid hp
      clear hB1 hp
      have cR := bR1.cell
      have fR := bR1.frozen
      cases hx : sOk x
      · gi_wp2_with (refine ⟨trivial, ?_⟩; gi_at_call 156; refine (CallsIn.inRound y (callsIn_wide.2 (sOk_SegV x _ _ hx))).mono ?_; rintro e w9 ⟨rfl, hb9⟩; have bR9 := boxed_call BR.out hb9; have cR9 := bR9.cell; have fR9 := bR9.frozen)
        exact ⟨((KeepsOthers.of_call hb9).trans (KeepsOthers.setCell _ _ _)).from _, ⟨⟨rfl, x, List.mem_append.2 (.inr (by simp)), hx⟩, bR9.set _⟩, (HB1.out.trans (hb9.mono HB1.out.size)).setCell (p := ⟨w.heap.size, 0, none⟩) (Nat.le_refl _) _⟩
      · gi_wp2_with (refine ⟨trivial, ?_⟩; gi_at_call 156; refine (CallsIn.inRound y (callsIn_wide.2 (sOk_SegV x _ _ hx))).mono ?_; rintro e w9 ⟨rfl, hb9⟩; have bR9 := boxed_call BR.out hb9)
        exact ⟨(KeepsOthers.of_call hb9).from _, KpS.of_call hb9, ⟨allS_snoc HP.out hx, bR9⟩, HB1.out.trans (hb9.mono HB1.out.size)⟩
    case done =>
      rintro D zs W hD rfl ⟨⟨hp, bR1⟩, hB1⟩ hK
      have cR := bR1.cell
      have fR := bR1.frozen
      obtain rfl : z = true := HZ.out.symm.trans (by rw [isLn, hin, Bool.true_and, List.all_eq_true]; exact hp)
      gi_wp2
      have hK' := (KeepsOthers.setCell W ⟨w.heap.size, 0, none⟩ (.bool true)).same D _ hK rfl
      refine ⟨by simp, .inl ⟨_, _, rfl, run_takeDeferred hK', ?_⟩⟩
      have hc5 := cell_kept (bR1.set (.bool true)).cell (grownBy_putObj' _ D (.deferred none)) (fun r e => by cases e; exact ⟨_, hK', rfl⟩)
      refine ⟨.bool true, ?_, rfl, (hB1.setCell (p := ⟨w.heap.size, 0, none⟩) (by simp) _).trans (belowK_b (w := w) (Nat.le_refl _) _ D _ _ (by omega) hK' rfl rfl)⟩
      simp [results, Tryz.f137, go_sem, hc5]
    case stop =>
      rintro D cc pre W hD hpre ⟨⟨⟨rfl, x, hx, hy⟩, bR1⟩, hB1⟩ hK
      obtain rfl : z = false := HZ.out.symm.trans (by
        rw [isLn, hin, Bool.true_and]
        cases hh : (jts l).all sOk
        · rfl
        · rw [List.all_eq_true.1 hh x (hpre.subset hx)] at hy; cases hy)
      gi_wp2
      refine ⟨by simp, .inl ⟨_, _, rfl, run_takeDeferred hK, ?_⟩⟩
      have hc5 := cell_kept bR1.cell (grownBy_putObj' _ D (.deferred none)) (fun r e => by cases e; exact ⟨_, hK, rfl⟩)
      refine ⟨.bool false, ?_, rfl, hB1.trans (belowK_b (w := w) (Nat.le_refl _) W D _ _ (by omega) hK rfl rfl)⟩
      simp [results, Tryz.f137, go_sem, hc5]
/-- The iterator over a line's segments: a box of its own, which shows the line (or nothing). -/
def WalkOf (M : Nat) (l : List (Int × Int)) (w : World) (e : Ending) (w' : World) : Prop :=
  ∃ Bx A1 c1, e = .returned (.func (.func 115) #[] #[.pointer (some ⟨Bx, 0, none⟩)]) ∧ w.heap.size ≤ Bx ∧ Boxed w' Bx 24 (.slice A1 (lnV l).length c1) ∧ SeesE 2 encPoint w' M A1 (lnV l) ∧ Below w.heap.size w w'
theorem walkLine_any (A : Option Addr) (c : Nat) (l : List (Int × Int)) (w : World) (M : Nat) (hM : M ≤ w.heap.size) (hs : SeesE 2 encPoint w M A l) (hl : l.length ≤ 1099511627776) :
    Calls Tryz.prog 110 #[.slice A l.length c] w (WalkOf M l w) := by
  have HS := Lib.hid hs; clear hs
  go_enter Tryz.func110, Tryz.ntmps110
  cases hi : isLn l
  · go_wp2_with (first
      | (go_at_call 137; refine (isLine_is A c l _ (HS.out.mono hM) hl _ hi).mono ?_; rintro e w1 ⟨rfl, hb1⟩)
      | (go_at_call 77; refine (jointsOf_any _ _ _ _).mono ?_; rintro e w2 ⟨rfl, rfl⟩))
    go_ret
    refine ⟨_, none, 0, rfl, hb1.size, ?_, ?_, hb1.trans ((Below.refl _ _).alloc hb1.size _)⟩
    · rw [lnV_no hi]; exact Boxed.new w1 _ _
    · rw [lnV_no hi]; exact SeesE.nil
  · go_wp2_with (first
      | (go_at_call 137; refine (isLine_is A c l _ (HS.out.mono hM) hl _ hi).mono ?_; rintro e w1 ⟨rfl, hb1⟩)
      | (go_at_call 77; refine (jointsOf_any _ _ _ _).mono ?_; rintro e w2 ⟨rfl, rfl⟩))
    go_ret
    refine ⟨_, A, c, rfl, hb1.size, ?_, ?_, hb1.trans ((Below.refl _ _).alloc hb1.size _)⟩
    · rw [lnV_yes hi]; exact Boxed.new w1 _ _
    · rw [lnV_yes hi]; exact (HS.out.below (hb1.mono hM)).alloc (Nat.le_trans hM hb1.size) _
end Go.Proofs.YtbnjaaegbmhopaaGreatDoor
