/- Lines: LineSteps of package impl. -/
import Derived.Test.YtbnjaaegbmhopaaLineJ
namespace Go.Proofs.Ytbnjaaegbmhopaa
open Go.ChangeShapes Go.WideShapes Go.ChangeAt Go.RowKit Go.Shelf
set_option linter.unusedVariables false
attribute [local go_sem] Oper.semAt_some

theorem stS_any (s : Int × Int × Int × Int) (k : Int) (w : World) (h : stS s = k) :
    Calls Try.prog 19 #[PtV s.1 s.2.1, PtV s.2.2.1 s.2.2.2] w fun e w' => e = .returned (.int .i64 k) ∧ Below w.heap.size w w' := by subst h; exact stepsBetween_any _ _ _ _ w
set_option maxRecDepth 100000 in
set_option maxHeartbeats 4000000 in
theorem lineSteps_is (A : Option Addr) (c : Nat) (l : List (Int × Int)) (w : World) (hs : SeesE 2 encPoint w w.heap.size A l) (hl : l.length ≤ 1099511627776) (z : Int) (hz : stpV (sgV l) = z) :
    Calls Try.prog 35 #[.slice A l.length c] w fun e w' => e = .returned (.int .i64 z) ∧ Below w.heap.size w w' := by
  have HS := Lib.hid hs; clear hs
  have HZ := Lib.hid hz; clear hz
  refine (callsIn_wide (n := 8)).1 ?_
  refine callsIn_of_wp_marks Try.func35 rfl trivial ?_ rfl
  simp only [Try.ntmps35, List.size_toArray, List.length_cons, List.length_nil, Nat.reduceAdd, Nat.reduceSub, Array.replicate_succ, Array.replicate_zero, List.push_toArray, List.append_toArray, List.nil_append, List.cons_append]
  gi_wp2_with (refine ⟨trivial, ?_⟩; gi_at_call 91; refine (callsIn_wide.2 (walkLine_any A c l _ w.heap.size (by simp) (HS.out.alloc (Nat.le_refl _) _) hl)).mono ?_; rintro e W0 ⟨Bx, A1, c1, rfl, hBx, bA, hS1, hB0⟩)
  have bS := boxed_below (Boxed.new w 3 (.int .i64 0)) hB0 (by simp)
  have hB0 : Below w.heap.size w W0 := ((Below.refl _ w).alloc (Nat.le_refl _) _).trans (hB0.mono (by simp))
  simp only [World.size_alloc] at hBx
  have hBl := bA.lt
  refine wpIn_rangeFunc_ownH rfl (by omega) (gf := 119) (lb := #[.pointer (some ⟨Bx, 0, none⟩)]) rfl trivial (enters_of Try.func119 (by kernel_rfl) rfl)
    (joints_stops (8 - 1) (by omega) Bx w.heap.size (fun k => k < w.heap.size ∨ k = Bx) A1 c1 (lnV l) (by have := lnV_len l; omega) W0 hBl hB0.size (.inr rfl) (fun _ h => .inl h) bA.cell hS1) KpS.t (KpS.book (by intro k hk; omega)) (Below.refl _ _) (fun _ => rfl)
    (fun pre W => (Boxed W w.heap.size 3 (.int .i64 (stpV pre))) ∧ Below w.heap.size w W)
    (fun _ _ _ => False)
    (OwnFrom.and (Own.from (boxed_own _ _ _) _) (ownFrom_below (Nat.le_refl _) hB0.size))
    (fun cc _ _ _ _ hs _ _ => hs)
    ⟨bS, hB0⟩
    (fun x a' W => ∃ By, w.heap.size < By ∧ Laid W By 38 (sC x) ∧ a' = { tmps := #[.slice A l.length c, undef, .int .i64 0, .pointer (some ⟨w.heap.size, 0, none⟩), .pointer (some ⟨By, 0, none⟩), .slice A l.length c, .func (.func 119) #[] #[.pointer (some ⟨Bx, 0, none⟩)], sV x, undef, undef, undef, undef, undef, undef, undef, undef], defers := [] })
    (fun x a' _ X Y row hs hg hr => by obtain ⟨Bx, h1, h2, h3⟩ := hs; exact ⟨Bx, h1, laid_own Bx 38 (fun (_ : Unit) => sC x) () X Y row h2 hg (fun r e => (hr r e).2), h3⟩)
    ?assign ?body ?done ?stop
  case assign =>
    rintro y pre x W K ⟨bS1, hB1⟩ hK
    gi_wp2
    exact hK _ _ ((KeepsOthers.alloc _ _).from _) (KpS.alloc _ _) ⟨bS1.alloc _, hB1.alloc hB1.size _⟩ ⟨W.heap.size, bS1.lt, Laid.new W _ _, rfl⟩
  case body =>
    rintro y pre x a' W hy hr ⟨bS1, hB1⟩ ⟨By, hBy, bX, rfl⟩ hlt
    obtain ⟨x0, x1, x2, x3⟩ := bX.c4
    have HB1 := Lib.hid hB1
    have BS := Lib.hid bS1
    clear hB1
    have cS := bS1.cell
    have fS := bS1.frozen
    clear bS1
    obtain ⟨k, hk⟩ : ∃ k, stS x = k := ⟨_, rfl⟩
    have hp9 : pre.length < 9 := by have := sgV_len l; unfold sgV at this; omega
    have h1b := stpV_bd pre
    have h2b := stS_bd x
    have hw : IntKind.i64.wrap (stpV pre + k) = stpV pre + k := IntWalk.i64_in _ (by omega)
    have HW : Hid (stpV pre + k = stpV (pre ++ [x])) := Lib.hid (by rw [stpV_snoc, hk])
    clear h1b h2b
    have hmx : Try.prog.follows .mixedOrders = true := by kernel_rfl
    gi_wp2
    gi_region_with_o (refine ⟨trivial, ?_⟩; gi_at_call 19; refine (CallsIn.inRound y (callsIn_wide.2 (stS_any x k _ hk))).mono ?_; rintro e w9 ⟨rfl, hb9⟩; have BS9 := Lib.hid (boxed_call (boxed_drew BS.out) hb9); have cS9 := BS9.out.cell; have fS9 := BS9.out.frozen)
    all_goals
      gi_wp2
      exact ⟨(((KeepsOthers.drew' W).trans (KeepsOthers.of_call hb9)).trans (KeepsOthers.setCell _ _ _)).from _, ((KpS.drew W).trans (KpS.of_call hb9)).trans (KpS.setCell _ _ _ (by intro hk; dsimp only at hk; omega)), by rw [← HW.out]; exact BS9.out.set _, (HB1.out.drew.trans (hb9.mono HB1.out.size)).setCell (p := ⟨w.heap.size, 0, none⟩) (Nat.le_refl _) _⟩
  case done =>
    rintro D zs W hD rfl ⟨bS1, hB1⟩ hK
    have cS := bS1.cell
    gi_wp2
    refine ⟨by simp, .inl ⟨_, _, rfl, run_takeDeferred hK, ?_⟩⟩
    exact ⟨_, results_tmp rfl _ _ _, by rw [← HZ.out]; rfl, hB1.trans (belowK_b (w := w) (Nat.le_refl _) W D _ _ (Nat.le_trans hB0.size hD) hK rfl rfl)⟩
  case stop =>
    rintro D cc pre W _ _ h _
    exact h.elim
end Go.Proofs.Ytbnjaaegbmhopaa
