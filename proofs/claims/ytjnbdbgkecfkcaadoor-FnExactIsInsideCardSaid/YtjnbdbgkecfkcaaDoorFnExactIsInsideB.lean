/- For every list of points and every point IsInside of package impl answers as the model, and writes nothing into its arguments; errNoRing holds what the program's text lays. -/
import Derived.Test.YtjnbdbgkecfkcaaDoorRows
import Derived.Test.YtjnbdbgkecfkcaaDoorJoin
import Derived.Stop.LaidErr
import Derived.LaidMore
import Derived.Test.YtjnbdbgkecfkcaaDoorRingS4
import Derived.Test.YtjnbdbgkecfkcaaDoorInside
import Derived.Test.YtjnbdbgkecfkcaaDoorOpenPts
import Derived.Test.YtjnbdbgkecfkcaaDoorTie
import Derived.Test.YtjnbdbgkecfkcaaDoorCards
import Derived.Test.YtjnbdbgkecfkcaaDoorOpenPt
import Derived.WalkKit
import Derived.ProofKit
import Derived.OpenShut
import Derived.ShutString
import Derived.SizedLaws
import Derived.Stop.Joined
import Derived.SevenTiedAt
import Derived.Below
section
/- What the statements list of errNoRing, as the walks read it. -/
namespace Go.Proofs.YtjnbdbgkecfkcaaDoor
open Go.ChangeShapes Go.WideShapes Go.ChangeAt Go.RowKit Go.Stop
set_option linter.unusedVariables false
set_option maxRecDepth 100000

theorem errName : Tryd.prog.globalNamed "loop.example/g03005/impl.errNoRing" = some 0 := by kernel_rfl
theorem errType : (Tryd.prog.globals[0]?).map (·.type) = some 55 := by kernel_rfl
theorem errStar : "*" ++ "errors.errorString" = "*errors.errorString" := by decide
theorem errRow (u : TypeId) (h : Tryd.prog.typeName? 3 u = some "*errors.errorString") : u = 161 :=
  typeName_ptr_named (nm := "errors.errorString") (by rw [errStar]; kernel_rfl) (by kernel_rfl) (by decide) u (by rw [errStar]; exact h)
theorem errCells : Tryd.prog.cellsOf 186 = 1 := by kernel_rfl
theorem strCells : Tryd.prog.cellsOf 9 = 1 := by kernel_rfl
theorem errAt_of {w : World} (hL : laidMet Tryd.prog [("loop.example/g03005/impl.errNoRing", Rows.laid_loop_example_g03005_impl_errNoRing)] w) : ∃ a0, ErrAt a0 w := by
  obtain ⟨a, s, hv, -, -, -⟩ := laid_sentinel (tp := 161) (te := 186) (ts := 9) hL errName errType Tryd.underlying55 errRow Tryd.underlying161 Tryd.underlying186 rfl rfl Tryd.underlying9 errCells strCells
  exact ⟨a, by have := World.var?_cell errName hv 0; simpa [ErrAt] using this⟩
theorem errVar_of {w : World} (hL : laidMet Tryd.prog [("loop.example/g03005/impl.errNoRing", Rows.laid_loop_example_g03005_impl_errNoRing)] w) : ∃ a0, w.var? Tryd.prog "loop.example/g03005/impl.errNoRing" = some #[.iface 161 (.pointer (some a0))] := by
  obtain ⟨a, s, hv, -, -, -⟩ := laid_sentinel (tp := 161) (te := 186) (ts := 9) hL errName errType Tryd.underlying55 errRow Tryd.underlying161 Tryd.underlying186 rfl rfl Tryd.underlying9 errCells strCells
  exact ⟨a, hv⟩
theorem errVars {H : Type} (enc : TypeId × Value → H) {W : World} {a0 : Addr} (h : W.var? Tryd.prog "loop.example/g03005/impl.errNoRing" = some #[.iface 161 (.pointer (some a0))]) (sp : Nat → Bool) :
    DataW.TrodVars enc Tryd.prog W sp ["loop.example/g03005/impl.errNoRing"] [tok enc (.iface 161 (.pointer (some a0)))] [.cell 0 0] :=
  vars_read1 enc errName errType Tryd.underlying55 h trivial sp
theorem errVar_below {W W' : World} {a0 : Addr} (h : W.var? Tryd.prog "loop.example/g03005/impl.errNoRing" = some #[.iface 161 (.pointer (some a0))]) (hb : Below W.heap.size W W') : W'.var? Tryd.prog "loop.example/g03005/impl.errNoRing" = some #[.iface 161 (.pointer (some a0))] :=
  var?_below hb errName (World.block_lt_of_cell? _ _ (World.var?_cell errName h 0)) h
end Go.Proofs.YtjnbdbgkecfkcaaDoor
end
section
/- The exact law of IsInside. -/
namespace Go.Proofs.YtjnbdbgkecfkcaaDoor
open Go.ChangeShapes Go.WideShapes Go.ChangeAt Go.RowKit
set_option linter.unusedVariables false

theorem OwnE.capLe {α : Type} {n : Nat} {enc : α → List Value} {w : World} {B : Nat} {e : TypeId} {A : Option Addr} {m c : Nat} {L : List α} (h : OwnE n enc w B e (.slice A m c) L) : (c : Int) ≤ 9223372036854775807 := by
  obtain ⟨A', c', hv, hc, -⟩ := h.form
  simp only [Value.slice.injEq] at hv
  unfold maxLen at hc
  omega
set_option maxRecDepth 100000 in
set_option maxHeartbeats 2000000 in
theorem law_FnExactIsInside (w : World) (a0 : Addr) (hE : ErrAt a0 w) (pa0 : Option Addr) (len0 cap0 : Nat) (l0 : List (Int × Int)) (ws0 : ShowsP w pa0 len0 l0) (x1 y1 : Int) (wx1 : (Lit.int .i64 x1).wf = true) (wy1 : (Lit.int .i64 y1).wf = true) :
    Calls Tryd.prog 6 #[.slice pa0 len0 cap0, PtV x1 y1] w fun e w' => e = .returned (.bool true) ∧ Below w.heap.size w w' := by
  obtain ⟨rfl, hs0, hm0⟩ := ws0
  have HS0 := Lib.hid hs0; clear hs0
  have HE := Lib.hid hE; clear hE
  obtain ⟨z, hz⟩ : ∃ z, inV l0 (x1, y1) = z := ⟨_, rfl⟩
  have HZ := Lib.hid hz; clear hz
  go_enter Tryd.func6, Tryd.ntmps6
  by_cases hc0 : (l0.length : Int) ≤ 1048576
  · skip
    go_wp2_with fail
    refine (szPointS_yes pa0 l0.length cap0 1048576 _ hc0 (by omega)).mono ?_
    rintro e w9 ⟨rfl, rfl⟩
    have hlt0 : ¬ ((1048576 : Int) - (l0.length : Int) < 0) := by omega
    have hlb0 : l0.length ≤ 1048576 := by omega
    have HB := Lib.hid ((Below.refl w.heap.size w).alloc (Nat.le_refl _) (.cells #[.int .i64 x1, .int .i64 y1] 45))
    have HP := Lib.hid (Vars.of1 w #[.int .i64 x1, .int .i64 y1] 45)
    generalize w.alloc (.cells #[.int .i64 x1, .int .i64 y1] 45) = w1 at HB HP ⊢
    have hq := HP.out.c20
    have HBd := Lib.hid HB.out.drew
    have HPd := Lib.hid HP.out.drew
    have HSd := Lib.hid ((HS0.out.below HBd.out).mono HBd.out.size)
    have HQd := Lib.hid HPd.out.c20
    have hlb2 : l0.length ≤ 274877906944 := by omega
    have hlb3 : l0.length ≤ 1099511627776 := by omega
    go_wp2_with fail
    go_region_held3 (fun w' => w'.cell? ⟨w.heap.size, 0, none⟩ = some (.int .i64 x1) ∧ w'.cell? ⟨w.heap.size, 1, none⟩ = some (.int .i64 y1)) (first | with_reducible exact hq | with_reducible exact HQd.out | with_reducible exact HQa.out | with_reducible exact HQb.out | with_reducible exact HQc.out) (first
      | (go_at_call 21; refine (toPointS_any pa0 cap0 l0 _ HSd.out hlb3).mono ?_; rintro e wa ⟨At, ct, Lt, HLt, rfl, hot, hba⟩; obtain rfl : l0 = Lt := HLt.out.symm; have HBa := Lib.hid (HBd.out.trans (hba.mono HBd.out.size)); have HPa := Lib.hid (HPd.out.next hba); have HQa := Lib.hid HPa.out.c20; have HOa := Lib.hid hot)
      | (go_at_call 25; refine (toPoint_any x1 y1 _).mono ?_; rintro e wb ⟨rfl, hbb⟩; have HBb := Lib.hid (HBa.out.trans (hbb.mono HBa.out.size)); have HPb := Lib.hid (HPa.out.next hbb); have HQb := Lib.hid HPb.out.c20; have HOb := Lib.hid (HOa.out.belowAll hbb))
      | (go_at_call 24; refine (sIsInside_is At ct l0 x1 y1 _ (HOb.out.sees elPoint) hlb2 z HZ.out).mono ?_; rintro e wc ⟨rfl, hbc⟩; have HBc := Lib.hid (HBb.out.trans (hbc.mono HBb.out.size)); have HPc := Lib.hid (HPb.out.next hbc); have HQc := Lib.hid HPc.out.c20) | fail)
    all_goals
      clear HQd HQa HQb HPd HPa HPb HBd HBa HBb HOa HOb HSd hq
      go_wp2_with fail
      refine (toPointS_any pa0 cap0 l0 wc ((HS0.out.below HBc.out).mono HBc.out.size) hlb3).mono ?_
      rintro e wd ⟨Ax, cx, Lx, HLx, rfl, hox, hbd⟩
      obtain rfl : l0 = Lx := HLx.out.symm
      have HBd := Lib.hid (HBc.out.trans (hbd.mono HBc.out.size)); have HPd := Lib.hid (HPc.out.next hbd); have HOd := Lib.hid hox
      obtain ⟨q0, q1⟩ := HPd.out.c20
      clear hox hbd
      go_wp2_with (first
        | (go_at_call 25; refine (toPoint_any x1 y1 _).mono ?_; rintro e we ⟨rfl, hbe⟩; have HBe := Lib.hid (HBd.out.trans (hbe.mono HBd.out.size)); have HOe := Lib.hid (HOd.out.belowAll hbe))
        | (go_at_call 16; refine (isInside_is a0 Ax cx l0 x1 y1 _ (HE.out.all HBe.out) (HOe.out.sees elPoint) hlb2 HOe.out.cap HOe.out.capLe z HZ.out).mono ?_; rintro e wf ⟨rfl, hbf⟩; have HBf := Lib.hid (HBe.out.trans (hbf.mono HBe.out.size)); have HOf := Lib.hid (HOe.out.belowAll hbf)))
      refine (toPointS_any pa0 cap0 l0 wf ((HS0.out.below HBf.out).mono HBf.out.size) hlb3).mono ?_
      rintro e wg ⟨Ay, cy, Ly, HLy, rfl, hoy, hbg⟩
      obtain rfl : l0 = Ly := HLy.out.symm
      have HBg := Lib.hid (HBf.out.trans (hbg.mono HBf.out.size)); have HOg := Lib.hid (HOf.out.belowAll hbg); have HOy := Lib.hid hoy
      clear hoy hbg
      go_wp2_with fail
      refine (eqPointS_yes Ax Ay cx cy l0 l0 wg (HOg.out.sees elPoint) (HOy.out.sees elPoint) rfl hlb3).mono ?_
      rintro e wh ⟨rfl, hbh⟩
      go_wp2
      go_ret
      exact ⟨rfl, HBg.out.trans (hbh.mono HBg.out.size)⟩
  · go_wp2_with fail
    refine (szPointS_no pa0 l0.length cap0 1048576 _ (by omega) (by omega) hm0).mono ?_
    rintro e w9 ⟨rfl, rfl⟩
    go_wp2
    go_ret
    exact ⟨rfl, (Below.refl w.heap.size w).alloc (Nat.le_refl _) _⟩
theorem law_FnExactIsInside_laid (w : World) (pa0 : Option Addr) (len0 cap0 : Nat) (l0 : List (Int × Int)) (ws0 : ShowsP w pa0 len0 l0) (x1 y1 : Int) (wx1 : (Lit.int .i64 x1).wf = true) (wy1 : (Lit.int .i64 y1).wf = true) (hL : laidMet Tryd.prog Rows.fnExactIsInsideRow.laid w) :
    Calls Tryd.prog 6 #[.slice pa0 len0 cap0, PtV x1 y1] w fun e w' => e = .returned (.bool true) ∧ Below w.heap.size w w' := by
  obtain ⟨a0, hE⟩ := errAt_of hL
  exact law_FnExactIsInside w a0 hE pa0 len0 cap0 l0 ws0 x1 y1 wx1 wy1
end Go.Proofs.YtjnbdbgkecfkcaaDoor
end
section
namespace Go.Proofs.YtjnbdbgkecfkcaaDoor.fnExactIsInside
open Go.ChangeShapes Go.WideShapes Go.ChangeAt Go.WideMaps Go.WideElems Go.RowKit
open Go.ChangeMaps (open_string shut_string)
set_option linter.unusedVariables false

theorem own : ownKnob Tryd.prog.godebug = none := by kernel_rfl
theorem laidOut : laidOutB Tryd.prog = true := by kernel_rfl

/-- What the package-level variables hold behind the program's own initialisers meets the row's condition. -/
theorem door_met (os : Os) (args : Array Value) : laidMetH Tryd.prog Rows.fnExactIsInsideRow.laid ((World.doorLaid Tryd.prog 28 os).forCall (fun _ _ => 0) ⟨#[], args, []⟩).memory :=
  laidMetH_of_parts3 (fuel := 8) (laidMet_of_run' 8 (by kernel_rfl) (by kernel_rfl)) (by kernel_rfl) (by kernel_rfl)

set_option maxRecDepth 100000 in
theorem lifted (os : Os) (started : os.Started) (H : Type) (enc : TypeId × Value → H) :
    ReturnsInHanded {} Tryd.checked os 6 .any (fun w args => (Rows.fnExactIsInsideSpec.pre enc Tryd.prog Tryd.f6 [] false w args ∧ laidMetH Tryd.prog Rows.fnExactIsInsideRow.laid w) ∧ sizedMet enc Tryd.prog Tryd.f6 (OpenSpec.ofChange Rows.fnExactIsInsideSpec) false w args)
      (Rows.fnExactIsInsideSpec.post enc Tryd.prog Tryd.f6 false true false false) := by
  refine returnsInHanded_of_change_and (C := Tryd.checked) (X := fun w _ => laidMetH Tryd.prog Rows.fnExactIsInsideRow.laid w) (fun _ _ _ hh h => h.of_heap hh) own started (by kernel_rfl) Tryd.func6
    (ChangeSpec.witness_shaped (enc := enc) (C := Tryd.checked) (os := os) (X := fun w _ => laidMetH Tryd.prog Rows.fnExactIsInsideRow.laid w) false (World.doorLaid Tryd.prog 28 os) #[.slice none 0 0, .agg #[.int .i64 0, .int .i64 0]] 8 rfl (World.shaped_of_RefB (by kernel_rfl) (by kernel_rfl)) (by kernel_rfl) (by kernel_rfl) (by kernel_rfl) (door_met os _)) ?_
  intro W base args ds gs before hval0 hW _ hsz0 hL0 _
  have hsz : (DataW.weightsEach Tryd.prog (Tryd.f6.params.toList ++ Rows.fnExactIsInsideSpec.plain.varTypes Tryd.prog) (ds ++ gs)).all (· ≤ reachBytes) = true := hsz0
  clear hsz0
  have hL : laidMet Tryd.prog Rows.fnExactIsInsideRow.laid W := by rw [MakeChecks.laidMetH_plain _ _ _ (by kernel_rfl)] at hL0; exact hL0
  have hval : ∀ (j : Nat) t v, Tryd.f6.params[j]? = some t → args[j]? = some v → Value.okWide Tryd.prog W .any base t v := hval0
  have hW' := hW
  obtain ⟨p, q, hA0, hV, rfl, hfz, hnd⟩ := hW
  have hA : DataW.TrodAll enc Tryd.prog W 0 (fun _ => true) true Tryd.f6.params.toList args.toList ds p := hA0
  rw [Tryd.params6] at hA hval hsz
  obtain ⟨v0, vs0, d0, ds0, p0, q0, hargs, rfl, rfl, h0, r0⟩ := trodAll_cons hA
  obtain ⟨v1, vs1, d1, ds1, p1, q1, rfl, rfl, rfl, h1, r1⟩ := trodAll_cons r0
  obtain ⟨rfl, rfl, rfl⟩ := trodAll_nil r1
  obtain rfl : args = #[v0, v1] := by cases args; simp_all
  obtain ⟨a0, hv0⟩ := errVar_of hL
  have hV1 : DataW.TrodVars enc Tryd.prog W (fun _ => true) ["loop.example/g03005/impl.errNoRing"] gs q := hV
  obtain ⟨rfl, rfl⟩ := hV1.unique (errVars enc hv0 _)
  have k0 := h0
  have lt0 : ∀ x ∈ p0, x.block < W.heap.size := by obtain ⟨m, hm⟩ := k0; exact DataW.trod_lt m _ _ _ hm
  obtain ⟨pa0, len0, cap0, l0, rfl, ws0⟩ := open_pts (hval 0 40 v0 rfl rfl) h0
  have k1 := h1
  have lt1 : ∀ x ∈ p1, x.block < W.heap.size := by obtain ⟨m, hm⟩ := k1; exact DataW.trod_lt m _ _ _ hm
  obtain ⟨x1, y1, rfl, wx1, wy1⟩ := open_pt (hval 1 45 v1 rfl rfl) h1
  clear hA0 hval0
  refine (law_FnExactIsInside_laid W pa0 len0 cap0 l0 ws0 x1 y1 wx1 wy1 hL).mono fun e W' ⟨he, bel⟩ => ?_
  subst he
  exact ⟨_, rfl, _, _, _, [], _, _, hW', trodAll_mk1 (shut_bool Tryd.underlying4 _), (trodAll_cons_mk (Below.trod laidOut (by kernel_rfl) (of_decide_eq_true (by kernel_rfl)) k0 bel lt0) (trodAll_cons_mk (Below.trod laidOut (by kernel_rfl) (of_decide_eq_true (by kernel_rfl)) k1 bel lt1) trodAll_mk0)), errVars enc (errVar_below hv0 bel) _, bel.frame _, fun h => by cases h⟩

theorem over : Rows.fnExactIsInsideRow.holds Tryd.pinned (OpenSpec.ofChange Rows.fnExactIsInsideSpec) :=
  OpenClaim.holds_of_wide 6 Tryd.f6 rfl rfl rfl rfl rfl rfl rfl ⟨rfl, rfl, rfl, rfl, rfl⟩ rfl rfl rfl rfl rfl (by kernel_rfl) Tryd.func6 (by kernel_rfl)
    (of_decide_eq_true (by kernel_rfl)) (by unfold Func.isWrapper; first | (rw [if_pos (by decide +kernel)]; kernel_rfl) | (rw [if_neg (by decide +kernel)]; exact ⟨rfl, rfl⟩))
    (fun os started H enc _ => lifted os started H enc)

/-- THE STATEMENT. -/
theorem proved : Rows.FnExactIsInsideCardSaid :=
  Claim7.holds_tied_plain_at .later [] [.sentinel] true (true, "b47027b6c85c6372491d965c0dd57f988b507e2b3d387b23045067b8c20bc8a1") true
    over (fun _ h => by cases h) (by kernel_rfl) (fun _ h => by cases h) fnExactIsInside_row_tie rfl ⟨rfl, rfl⟩ (by kernel_rfl) rfl
    (fun f fn hf hfn => by
      obtain rfl : f = 6 := Option.some.inj ((show Tryd.prog.funcNamed "loop.example/g03005/laws.FnExactIsInside" = some 6 by kernel_rfl).symm.trans hf) |>.symm
      obtain rfl : fn = Tryd.f6 := (Option.some.inj (Tryd.func6.symm.trans hfn)).symm
      exact ⟨by kernel_rfl, fun j t ht => by
        rw [Tryd.params6] at ht
        have hm : t ∈ [40, 45] := by simpa using Array.mem_of_getElem? ht
        have hall : ([40, 45].all fun u => !Tryd.prog.wantsStandIn u) = true := by kernel_rfl
        exact (show Tryd.prog.wantsStandIn t = false by simpa using List.all_eq_true.1 hall t hm)⟩)
    (by kernel_rfl)
#print axioms proved
end Go.Proofs.YtjnbdbgkecfkcaaDoor.fnExactIsInside
end
