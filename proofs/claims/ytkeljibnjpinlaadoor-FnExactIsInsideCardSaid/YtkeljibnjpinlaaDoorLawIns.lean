/- The exact law of IsInside. -/
import Derived.Test.YtkeljibnjpinlaaDoorRingS4
import Derived.Test.YtkeljibnjpinlaaDoorInside
import Derived.Test.YtkeljibnjpinlaaDoorOpenPts
import Derived.Test.YtkeljibnjpinlaaDoorLaidE
namespace Go.Proofs.YtkeljibnjpinlaaDoor
open Go.ChangeShapes Go.WideShapes Go.ChangeAt Go.RowKit
set_option linter.unusedVariables false

theorem OwnE.capLe {α : Type} {n : Nat} {enc : α → List Value} {w : World} {B : Nat} {e : TypeId} {A : Option Addr} {m c : Nat} {L : List α} (h : OwnE n enc w B e (.slice A m c) L) : (c : Int) ≤ 9223372036854775807 := by
  obtain ⟨A', c', hv, hc, -⟩ := h.form
  simp only [Value.slice.injEq] at hv
  unfold maxLen at hc
  omega
set_option maxRecDepth 100000 in
set_option maxHeartbeats 2000000 in
theorem law_FnExactIsInside (w : World) (a0 : Addr) (hE : ErrAt a0 w) (pa0 : Option Addr) (len0 cap0 : Nat) (l0 : List (Int × Int)) (ws0 : ShowsP w pa0 len0 l0) (x1 y1 : Int) (wx1 : (Lit.int .i64 x1).wf = true) (wy1 : (Lit.int .i64 y1).wf = true) :
    Calls Tryd.prog 6 #[.slice pa0 len0 cap0, PtV x1 y1] w fun e w' => e = .returned (.bool true) ∧ Below w.heap.size w w' := by
  obtain ⟨rfl, hs0, hm0⟩ := ws0
  have HS0 := Lib.hid hs0; clear hs0
  have HE := Lib.hid hE; clear hE
  obtain ⟨z, hz⟩ : ∃ z, inV l0 (x1, y1) = z := ⟨_, rfl⟩
  have HZ := Lib.hid hz; clear hz
  go_enter Tryd.func6, Tryd.ntmps6
  by_cases hc0 : (l0.length : Int) ≤ 1048576
  · skip
    go_wp2_with fail
    refine (szPointS_yes pa0 l0.length cap0 1048576 _ hc0 (by omega)).mono ?_
    rintro e w9 ⟨rfl, rfl⟩
    have hlt0 : ¬ ((1048576 : Int) - (l0.length : Int) < 0) := by omega
    have hlb0 : l0.length ≤ 1048576 := by omega
    have HB := Lib.hid ((Below.refl w.heap.size w).alloc (Nat.le_refl _) (.cells #[.int .i64 x1, .int .i64 y1] 45))
    have HP := Lib.hid (Vars.of1 w #[.int .i64 x1, .int .i64 y1] 45)
    generalize w.alloc (.cells #[.int .i64 x1, .int .i64 y1] 45) = w1 at HB HP ⊢
    have hq := HP.out.c20
    have HBd := Lib.hid HB.out.drew
    have HPd := Lib.hid HP.out.drew
    have HSd := Lib.hid ((HS0.out.below HBd.out).mono HBd.out.size)
    have HQd := Lib.hid HPd.out.c20
    have hlb2 : l0.length ≤ 274877906944 := by omega
    have hlb3 : l0.length ≤ 1099511627776 := by omega
    go_wp2_with fail
    go_region_held3 (fun w' => w'.cell? ⟨w.heap.size, 0, none⟩ = some (.int .i64 x1) ∧ w'.cell? ⟨w.heap.size, 1, none⟩ = some (.int .i64 y1)) (first | with_reducible exact hq | with_reducible exact HQd.out | with_reducible exact HQa.out | with_reducible exact HQb.out | with_reducible exact HQc.out) (first
      | (go_at_call 21; refine (toPointS_any pa0 cap0 l0 _ HSd.out hlb3).mono ?_; rintro e wa ⟨At, ct, Lt, HLt, rfl, hot, hba⟩; obtain rfl : l0 = Lt := HLt.out.symm; have HBa := Lib.hid (HBd.out.trans (hba.mono HBd.out.size)); have HPa := Lib.hid (HPd.out.next hba); have HQa := Lib.hid HPa.out.c20; have HOa := Lib.hid hot)
      | (go_at_call 25; refine (toPoint_any x1 y1 _).mono ?_; rintro e wb ⟨rfl, hbb⟩; have HBb := Lib.hid (HBa.out.trans (hbb.mono HBa.out.size)); have HPb := Lib.hid (HPa.out.next hbb); have HQb := Lib.hid HPb.out.c20; have HOb := Lib.hid (HOa.out.belowAll hbb))
      | (go_at_call 24; refine (sIsInside_is At ct l0 x1 y1 _ (HOb.out.sees elPoint) hlb2 z HZ.out).mono ?_; rintro e wc ⟨rfl, hbc⟩; have HBc := Lib.hid (HBb.out.trans (hbc.mono HBb.out.size)); have HPc := Lib.hid (HPb.out.next hbc); have HQc := Lib.hid HPc.out.c20) | fail)
    all_goals
      clear HQd HQa HQb HPd HPa HPb HBd HBa HBb HOa HOb HSd hq
      go_wp2_with fail
      refine (toPointS_any pa0 cap0 l0 wc ((HS0.out.below HBc.out).mono HBc.out.size) hlb3).mono ?_
      rintro e wd ⟨Ax, cx, Lx, HLx, rfl, hox, hbd⟩
      obtain rfl : l0 = Lx := HLx.out.symm
      have HBd := Lib.hid (HBc.out.trans (hbd.mono HBc.out.size)); have HPd := Lib.hid (HPc.out.next hbd); have HOd := Lib.hid hox
      obtain ⟨q0, q1⟩ := HPd.out.c20
      clear hox hbd
      go_wp2_with (first
        | (go_at_call 25; refine (toPoint_any x1 y1 _).mono ?_; rintro e we ⟨rfl, hbe⟩; have HBe := Lib.hid (HBd.out.trans (hbe.mono HBd.out.size)); have HOe := Lib.hid (HOd.out.belowAll hbe))
        | (go_at_call 16; refine (isInside_is a0 Ax cx l0 x1 y1 _ (HE.out.all HBe.out) (HOe.out.sees elPoint) hlb2 HOe.out.cap HOe.out.capLe z HZ.out).mono ?_; rintro e wf ⟨rfl, hbf⟩; have HBf := Lib.hid (HBe.out.trans (hbf.mono HBe.out.size)); have HOf := Lib.hid (HOe.out.belowAll hbf)))
      refine (toPointS_any pa0 cap0 l0 wf ((HS0.out.below HBf.out).mono HBf.out.size) hlb3).mono ?_
      rintro e wg ⟨Ay, cy, Ly, HLy, rfl, hoy, hbg⟩
      obtain rfl : l0 = Ly := HLy.out.symm
      have HBg := Lib.hid (HBf.out.trans (hbg.mono HBf.out.size)); have HOg := Lib.hid (HOf.out.belowAll hbg); have HOy := Lib.hid hoy
      clear hoy hbg
      go_wp2_with fail
      refine (eqPointS_yes Ax Ay cx cy l0 l0 wg (HOg.out.sees elPoint) (HOy.out.sees elPoint) rfl hlb3).mono ?_
      rintro e wh ⟨rfl, hbh⟩
      go_wp2
      go_ret
      exact ⟨rfl, HBg.out.trans (hbh.mono HBg.out.size)⟩
  · go_wp2_with fail
    refine (szPointS_no pa0 l0.length cap0 1048576 _ (by omega) (by omega) hm0).mono ?_
    rintro e w9 ⟨rfl, rfl⟩
    go_wp2
    go_ret
    exact ⟨rfl, (Below.refl w.heap.size w).alloc (Nat.le_refl _) _⟩
theorem law_FnExactIsInside_laid (w : World) (pa0 : Option Addr) (len0 cap0 : Nat) (l0 : List (Int × Int)) (ws0 : ShowsP w pa0 len0 l0) (x1 y1 : Int) (wx1 : (Lit.int .i64 x1).wf = true) (wy1 : (Lit.int .i64 y1).wf = true) (hL : laidMet Tryd.prog Rows.fnExactIsInsideRow.laid w) :
    Calls Tryd.prog 6 #[.slice pa0 len0 cap0, PtV x1 y1] w fun e w' => e = .returned (.bool true) ∧ Below w.heap.size w w' := by
  obtain ⟨a0, hE⟩ := errAt_of hL
  exact law_FnExactIsInside w a0 hE pa0 len0 cap0 l0 ws0 x1 y1 wx1 wy1
end Go.Proofs.YtkeljibnjpinlaaDoor
