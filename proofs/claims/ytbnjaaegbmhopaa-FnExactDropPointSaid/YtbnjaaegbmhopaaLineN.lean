/- Lines: LinesMeet of package impl. -/
import Derived.Test.YtbnjaaegbmhopaaLineM2
namespace Go.Proofs.Ytbnjaaegbmhopaa
open Go.ChangeShapes Go.WideShapes Go.ChangeAt Go.RowKit Go.Shelf
set_option linter.unusedVariables false
attribute [local go_sem] Oper.semAt_some

theorem runStoreFunc {P : Program} {w : World} {a : Addr} {m : Mode} (fn : Fn) (first captured : Array Value) : (store a (.func fn first captured) m).run P w = stored P w a (.func fn first captured) m := run_store P w a _ m rfl
attribute [local go_sem] runStoreFunc
theorem SeesE.back {α : Type} {n : Nat} {enc : α → List Value} {w w' : World} {B : Nat} {A : Option Addr} {l : List α} (h : SeesE n enc w' B A l) (hb : Below B w w') : SeesE n enc w B A l := fun j x hj => by
  obtain ⟨b, off, e, hlt, hc⟩ := h j x hj
  exact ⟨b, off, e, hlt, fun k v hv => ((hb.cell (p := ⟨b, off + j * n + k, none⟩) hlt).symm).trans (hc k v hv)⟩
theorem ownFrom_kpS {β : Type} {p : Nat → Prop} {B : Nat} {w₀ : World} (hp : ∀ k, p k → k < B) : OwnFrom B (fun (_ : β) W => KpS p w₀ W) := fun s X Y row hs hg hr =>
  hs.trans (KpS.grown hg fun k e hk => by have h1 := (hr k e).1; have h2 := hp k hk; omega)
theorem maxS_is (a b z : Int) (w : World) (hz : extV true a b = z) : Calls Try.prog 93 #[.int .i64 a, .int .i64 b] w fun e w' => e = .returned (.int .i64 z) ∧ Below w.heap.size w w' := by subst hz; rw [ext_max]; exact maxB a b w
/-- The iterator over the joints of a slice in block B. -/
abbrev jFn (B : Nat) : Value := .func (.func 119) #[] #[.pointer (some ⟨B, 0, none⟩)]
set_option maxRecDepth 100000 in
set_option maxHeartbeats 16000000 in
theorem linesMeet_is (A A' : Option Addr) (c c' : Nat) (l l' : List (Int × Int)) (w : World) (hs : SeesE 2 encPoint w w.heap.size A l) (hs' : SeesE 2 encPoint w w.heap.size A' l') (hl : l.length ≤ 1099511627776) (hl' : l'.length ≤ 1099511627776) (z : Int) (hz : mtV (sgV l) (sgV l') = z) :
    Calls Try.prog 38 #[.slice A l.length c, .slice A' l'.length c'] w fun e w' => e = .returned (.int .i64 z) ∧ Below w.heap.size w w' := by
  have HS := Lib.hid hs; have HS' := Lib.hid hs'; clear hs hs'
  have HZ := Lib.hid hz; clear hz
  refine (callsIn_wide (n := 8)).1 ?_
  refine callsIn_of_wp_marks Try.func38 rfl trivial ?_ rfl
  simp only [Try.ntmps38, List.size_toArray, List.length_cons, List.length_nil, Nat.reduceAdd, Nat.reduceSub, Array.replicate_succ, Array.replicate_zero, List.push_toArray, List.append_toArray, List.nil_append, List.cons_append]
  gi_wp2_with (fail)
  refine ⟨trivial, ?_⟩
  refine (callsIn_wide.2 (walkLine_any A' c' l' w w.heap.size (Nat.le_refl _) HS'.out hl')).mono ?_
  rintro e w1 ⟨Bb, A1, c1, rfl, hBb, bB, hS1, hB1⟩
  gi_wp2_with (fail)
  refine ⟨trivial, ?_⟩
  have hB2 : Below w.heap.size w ((w1.alloc (.cells #[jFn Bb] 114)).alloc (.cells #[.int .i64 0] 3)) := (hB1.alloc hB1.size _).alloc (Nat.le_trans hB1.size (by simp)) _
  refine (callsIn_wide.2 (walkLine_any A c l _ w.heap.size hB2.size (HS.out.below hB2) hl)).mono ?_
  rintro e W0 ⟨Ba, A2, c2, rfl, hBa, bA, hS2, hB3⟩
  have bO := boxed_below ((Boxed.new w1 114 (jFn Bb)).alloc (.cells #[.int .i64 0] 3)) hB3 (by simp; omega)
  have bG := boxed_below (Boxed.new (w1.alloc (.cells #[jFn Bb] 114)) 3 (.int .i64 0)) hB3 (by simp)
  have hBbl := bB.lt
  have bB := boxed_below ((bB.alloc (.cells #[jFn Bb] 114)).alloc (.cells #[.int .i64 0] 3)) hB3 (by have := bB.lt; simp; omega)
  simp only [World.size_alloc] at bG hBa
  have hS1 := Lib.hid (hS1.back hB1)
  have hB0 : Below w.heap.size w W0 := hB2.trans (hB3.mono hB2.size)
  have hz0 := hB3.size
  gi_wp2_with (fail)
  have hg : w1.heap.size + 1 ≤ W0.heap.size := Nat.le_trans (by simp) hz0
  have hp9 : Hid (∀ k, (k < w.heap.size ∨ k = Ba ∨ k = Bb) → k < W0.heap.size) := Lib.hid (by intro k hk; have := bA.lt; have := hB0.size; omega)
  have hnG : Hid (¬ (w1.heap.size + 1 < w.heap.size ∨ w1.heap.size + 1 = Ba ∨ w1.heap.size + 1 = Bb)) := Lib.hid (by have := hB1.size; omega)
  have h1 := hB1.size
  have hlA : (lnV l).length ≤ 1099511627776 := by have := lnV_len l; omega
  have hlB : (lnV l').length ≤ 1099511627776 := by have := lnV_len l'; omega
  clear hB2 hB3 hz0
  refine wpIn_rangeFunc_ownH rfl (by omega) (gf := 119) (lb := #[.pointer (some ⟨Ba, 0, none⟩)]) rfl trivial (enters_of Try.func119 (by kernel_rfl) rfl)
    (joints_stops (8 - 1) (by omega) Ba w.heap.size (fun k => k < w.heap.size ∨ k = Ba ∨ k = Bb) A2 c2 (lnV l) hlA W0 bA.lt hB0.size (.inr (.inl rfl)) (fun _ h => .inl h) bA.cell hS2) KpS.t (KpS.book hp9.out) (Below.refl _ _) (fun _ => rfl)
    (fun pre W => ((Boxed W (w1.heap.size + 1) 3 (.int .i64 (mtV pre (sgV l'))) ∧ Boxed W w1.heap.size 114 (jFn Bb)) ∧ Boxed W Bb 47 (.slice A1 (lnV l').length c1)) ∧ Below w.heap.size w W)
    (fun _ _ _ => False)
    (OwnFrom.and (OwnFrom.and (OwnFrom.and (Own.from (boxed_own _ _ _) _) (Own.from (boxed_own _ _ _) _)) (Own.from (boxed_own _ _ _) _)) (ownFrom_below (Nat.le_refl _) hB0.size))
    (fun cc _ _ _ _ hs _ _ => hs)
    ⟨⟨⟨bG, bO⟩, bB⟩, hB0⟩
    (fun x a' W => ∃ By, (w1.heap.size + 1 < By ∧ w1.heap.size + 1 ≠ By) ∧ Laid W By 38 (sC x) ∧ a' = { tmps := #[.slice A l.length c, .slice A' l'.length c', undef, undef, .int .i64 0, .pointer (some ⟨w1.heap.size, 0, none⟩), .pointer (some ⟨w1.heap.size + 1, 0, none⟩), .pointer (some ⟨By, 0, none⟩), undef, .slice A' l'.length c', jFn Bb, .slice A l.length c, jFn Ba, sV x, undef, undef, undef, undef, undef, undef, undef, undef], defers := [] })
    (fun x a' _ X Y row hs hg hr => by obtain ⟨Bx, h1, h2, h3⟩ := hs; exact ⟨Bx, h1, laid_own Bx 38 (fun (_ : Unit) => sC x) () X Y row h2 hg (fun r e => (hr r e).2), h3⟩)
    ?assign ?body ?done ?stop
  case assign =>
    rintro y pre x W K ⟨⟨⟨bG1, bO1⟩, bB1⟩, hB4⟩ hK
    gi_wp2
    exact hK _ _ ((KeepsOthers.alloc _ _).from _) (KpS.alloc _ _) ⟨⟨⟨bG1.alloc _, bO1.alloc _⟩, bB1.alloc _⟩, hB4.alloc hB4.size _⟩ ⟨W.heap.size, ⟨bG1.lt, by have := bG1.lt; omega⟩, Laid.new W _ _, rfl⟩
  case body =>
    rintro y pre x a' W hy ⟨r, hr⟩ ⟨⟨⟨bG1, bO1⟩, bB1⟩, hB4⟩ ⟨By, hBy, bX, rfl⟩ hlt
    have cO := bO1.cell
    have h1' : 1 ≤ 8 - 1 - 1 := by omega
    gi_wp2_with (fail)
    have hsW := hB4.size
    have hW0 : W0.heap.size ≤ W.heap.size := Nat.le_trans hy (Nat.le_of_lt (Array.getElem?_eq_some_iff.1 hr).1)
    refine wpIn_rangeFunc_ownN (l₀ := y) (r₀ := r) rfl hr h1' (gf := 119) (lb := #[.pointer (some ⟨Bb, 0, none⟩)]) rfl trivial (enters_of Try.func119 (by kernel_rfl) rfl)
      ((joints_stops (8 - 1 - 1 - 1) (by omega) Bb w.heap.size (fun k => k < w.heap.size ∨ k = Ba ∨ k = Bb) A1 c1 (lnV l') hlB W bB1.lt hsW (.inr (.inr rfl)) (fun _ h => .inl h) bB1.cell (hS1.out.below hB4)).inRound y) KpS.t (KpS.book (fun k hk => Nat.lt_of_lt_of_le (hp9.out k hk) hW0)) (Below.refl _ _) (fun _ => rfl)
      (fun pre' W' => (((Boxed W' (w1.heap.size + 1) 3 (.int .i64 (mxS (mtV pre (sgV l')) x pre')) ∧ Laid W' By 38 (sC x)) ∧ Boxed W' w1.heap.size 114 (jFn Bb)) ∧ Boxed W' Bb 47 (.slice A1 (lnV l').length c1)) ∧ (Below w.heap.size W W' ∧ KeepsFrom W0.heap.size W W') ∧ KpS (fun k => k < w.heap.size ∨ k = Ba ∨ k = Bb) W W')
      (fun _ _ _ => False)
      (OwnFrom.and (OwnFrom.and (OwnFrom.and (OwnFrom.and (Own.from (boxed_own _ _ _) _) (Own.from (laid_own _ _ _) _)) (Own.from (boxed_own _ _ _) _)) (Own.from (boxed_own _ _ _) _)) (OwnFrom.and (OwnFrom.and (ownFrom_below hsW hsW) (ownFrom_keepsFrom (Nat.le_refl _))) (ownFrom_kpS (fun k hk => Nat.lt_of_lt_of_le (hp9.out k hk) hW0))))
      (fun _ _ _ _ _ hs _ _ => hs)
      ⟨⟨⟨⟨bG1, bX⟩, bO1⟩, bB1⟩, ⟨Below.refl _ W, KeepsFrom.refl _ _⟩, KpS.refl _⟩
      (fun t a'' W' => ∃ Bz, (w1.heap.size + 1 < Bz ∧ w1.heap.size + 1 ≠ Bz) ∧ Laid W' Bz 38 (sC t) ∧ a'' = { tmps := #[.slice A l.length c, .slice A' l'.length c', undef, undef, .int .i64 0, .pointer (some ⟨w1.heap.size, 0, none⟩), .pointer (some ⟨w1.heap.size + 1, 0, none⟩), .pointer (some ⟨By, 0, none⟩), .pointer (some ⟨Bz, 0, none⟩), .slice A' l'.length c', jFn Bb, .slice A l.length c, jFn Ba, sV x, jFn Bb, sV t, undef, undef, undef, undef, undef, undef], defers := [] })
      (fun t a'' _ X Y row hs hg hr => by obtain ⟨Bx, h1, h2, h3⟩ := hs; exact ⟨Bx, h1, laid_own Bx 38 (fun (_ : Unit) => sC t) () X Y row h2 hg (fun r e => (hr r e).2), h3⟩)
      ?assign2 ?body2 ?done2 ?stop2
    case assign2 =>
      rintro y2 pre' t W' K ⟨⟨⟨⟨bG2, bX2⟩, bO2⟩, bB2⟩, ⟨hBW, hKF⟩, hKp⟩ hK
      gi_wp2
      exact hK _ _ ((KeepsOthers.alloc _ _).from _) (KpS.alloc _ _) ⟨⟨⟨⟨bG2.alloc _, bX2.alloc _⟩, bO2.alloc _⟩, bB2.alloc _⟩, ⟨hBW.alloc (Nat.le_trans hsW hBW.size) _, hKF.trans ((KeepsOthers.alloc _ _).from _)⟩, hKp.trans (KpS.alloc _ _)⟩ ⟨W'.heap.size, ⟨bG2.lt, by have := bG2.lt; omega⟩, Laid.new W' _ _, rfl⟩
    case body2 =>
      rintro y2 pre' t a'' W' _ _ ⟨⟨⟨⟨bG2, bX2⟩, bO2⟩, bB2⟩, ⟨hBW, hKF⟩, hKp⟩ ⟨Bz, hBz, bZ, rfl⟩ _
      obtain ⟨x0, x1, x2, x3⟩ := bX2.c4
      obtain ⟨t0, t1, t2, t3⟩ := bZ.c4
      have cG := bG2.cell
      have fG := bG2.frozen
      have BG := Lib.hid bG2; have BX := Lib.hid bX2; have BO := Lib.hid bO2; have BB := Lib.hid bB2; have BZ := Lib.hid bZ
      have HW := Lib.hid hBW; have HF := Lib.hid hKF; have HP := Lib.hid hKp
      clear bG2 bX2 bO2 bB2 bZ hBW hKF hKp
      obtain ⟨m, hm⟩ : ∃ m, howS x t = m := ⟨_, rfl⟩
      obtain ⟨M, hM⟩ : ∃ M, mxS (mtV pre (sgV l')) x pre' = M := ⟨_, rfl⟩
      obtain ⟨q, hq⟩ : ∃ q, extV true M m = q := ⟨_, rfl⟩
      have HQ : Hid (q = mxS (mtV pre (sgV l')) x (pre' ++ [t])) := Lib.hid (by rw [mxS_snoc, hM, hm, hq])
      rw [hM] at cG
      have hmx : Try.prog.follows .mixedOrders = true := by kernel_rfl
      gi_wp2_with (fail)
      gi_region_with_o (first
        | (refine ⟨trivial, ?_⟩; gi_at_call 24; refine (CallsIn.inRound y2 (CallsIn.inRound y (callsIn_wide.2 (howS_is x t m _ hm)))).mono ?_; rintro e w9 ⟨rfl, hb9⟩; have BG9 := Lib.hid (boxed_call (boxed_drew BG.out) hb9); have cG9 := BG9.out.cell; have hb9' := Lib.hid hb9)
        | (refine ⟨trivial, ?_⟩; gi_at_call 93; refine (CallsIn.inRound y2 (CallsIn.inRound y (callsIn_wide.2 (maxS_is M m q _ hq)))).mono ?_; rintro e w8 ⟨rfl, hb8⟩; have BG8 := Lib.hid (boxed_call BG9.out hb8); have cG8 := BG8.out.cell; have fG8 := BG8.out.frozen))
      all_goals
        gi_wp2
        have hC : Below W'.heap.size W' w8 := ((Below.refl _ W').drew.trans hb9).trans (hb8.mono hb9.size)
        have hCw := hC.mono (Nat.le_trans hsW HW.out.size)
        exact ⟨((KeepsOthers.of_call hC).trans (KeepsOthers.setCell _ _ _)).from _, (KpS.of_call hC).trans (KpS.setCell _ _ _ hnG.out),
          ⟨⟨⟨by rw [← HQ.out]; exact BG8.out.set _, (BX.out.call hC).kept (grownBy_setCell' _ _ _) (fun e => hBy.2 (Option.some.inj e).symm)⟩, (boxed_call BO.out hC).other (by omega) _⟩, (boxed_call BB.out hC).other (by omega) _⟩,
          ⟨HW.out.trans (hCw.setCell (p := ⟨w1.heap.size + 1, 0, none⟩) (by dsimp only; omega) _), HF.out.trans (((KeepsOthers.of_call hC).trans (KeepsOthers.setCell _ _ _)).from _)⟩, HP.out.trans ((KpS.of_call hC).trans (KpS.setCell _ _ _ hnG.out))⟩
    case done2 =>
      rintro ys' W' rfl ⟨⟨⟨⟨bG2, bX2⟩, bO2⟩, bB2⟩, ⟨hBW, hKF⟩, hKp⟩
      gi_wp2
      exact ⟨hKF, hKp, ⟨⟨by rw [mtV_snoc]; exact bG2, bO2⟩, bB2⟩, hB4.trans hBW⟩
    case stop2 =>
      rintro cc pre' W' _ h
      exact h.elim
  case done =>
    rintro D zs W hD rfl ⟨⟨⟨bG1, bO1⟩, bB1⟩, hB4⟩ hK
    have cG := bG1.cell
    gi_wp2
    refine ⟨by simp, .inl ⟨_, _, rfl, run_takeDeferred hK, ?_⟩⟩
    exact ⟨_, results_tmp rfl _ _ _, by rw [← HZ.out]; rfl, hB4.trans (belowK_b (w := w) (Nat.le_refl _) W D _ _ (Nat.le_trans hB0.size hD) hK rfl rfl)⟩
  case stop =>
    rintro D cc pre W _ _ h _
    exact h.elim
end Go.Proofs.Ytbnjaaegbmhopaa
