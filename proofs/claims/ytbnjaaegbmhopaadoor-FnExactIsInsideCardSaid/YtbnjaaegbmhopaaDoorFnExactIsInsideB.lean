/- For every list of points and every point, IsInside of package impl gives what the model gives, and leaves its arguments as they were. -/
import Derived.Test.YtbnjaaegbmhopaaDoorPoint
import Derived.Lib.SmallJoins
import Derived.OpenShut
import Derived.Test.YtbnjaaegbmhopaaDoorHelpE
import Derived.ChangeArms
import Derived.ChangeSame
import Derived.Test.YtbnjaaegbmhopaaDoorRows
import Derived.Test.YtbnjaaegbmhopaaDoorJoin
import Derived.Stop.LaidErr
import Derived.LaidMore
import Derived.Test.YtbnjaaegbmhopaaDoorRingS4
import Derived.Test.YtbnjaaegbmhopaaDoorInside
import Derived.Test.YtbnjaaegbmhopaaDoorTie
import Derived.Test.YtbnjaaegbmhopaaDoorCards
import Derived.WalkKit
import Derived.ProofKit
import Derived.ShutString
import Derived.SizedLaws
import Derived.Stop.Joined
import Derived.SevenTiedAt
import Derived.Below
section
/- A point as an argument of a law: opened to its two integers. -/
namespace Go.Proofs.YtbnjaaegbmhopaaDoor
open Go.ChangeShapes Go.WideShapes Go.ChangeAt Go.RowKit Go.Joins
set_option linter.unusedVariables false

set_option maxRecDepth 100000 in
theorem cellsPt : Tryd.prog.cellsOf 31 = 2 := by kernel_rfl
set_option maxRecDepth 100000 in
theorem open_pt {H : Type} {enc : TypeId × Value → H} {W : World} {base b0 : Nat} {spare : Nat → Bool} {held : Bool} {r : Reach} {v : Value} {d : DataW H} {p : List MemPlace}
    (hv : Value.okWide Tryd.prog W r b0 31 v) (h : DataW.Trod enc Tryd.prog W base spare held 31 v d p) :
    ∃ x y : Int, v = PtV x y ∧ (Lit.int .i64 x).wf = true ∧ (Lit.int .i64 y).wf = true := by
  obtain ⟨c0, c1, y0, y1, m, rfl, rfl, rfl, hy0, hy1⟩ := open_agg2 Tryd.underlying31 (by kernel_rfl) cellsPt hv h
  obtain ⟨a, e0, rfl, wa⟩ := DataW.trod_int Tryd.underlying3 hy0
  obtain ⟨b, e1, rfl, wb⟩ := DataW.trod_int Tryd.underlying3 hy1
  simp at e0 e1
  subst e0 e1
  exact ⟨a, b, rfl, wa, wb⟩
end Go.Proofs.YtbnjaaegbmhopaaDoor
end
section
/- A slice of points as an argument of a law: opened to a list of pairs. -/
namespace Go.Proofs.YtbnjaaegbmhopaaDoor
open Go.ChangeShapes Go.WideShapes Go.ChangeAt Go.RowKit Go.Joins
set_option linter.unusedVariables false
set_option maxRecDepth 100000

/-- A slice argument that shows l. -/
def ShowsP (w : World) (a : Option Addr) (len : Nat) (l : List (Int × Int)) : Prop := len = l.length ∧ SeesE 2 encPoint w w.heap.size a l ∧ l.length ≤ 9223372036854775807
theorem trod_pt {H : Type} {enc : TypeId × Value → H} {W : World} {base : Nat} {spare : Nat → Bool} {held : Bool} {n : Nat} {cs : List Value} {y : DataW H × List MemPlace}
    (h : DataW.trod enc Tryd.prog W base spare held n 31 cs = some y) : ∃ a b : Int, cs = [.int .i64 a, .int .i64 b] := by
  obtain ⟨y0, y1, m, hx, hlen, h0, h1⟩ := trod_struct2 Tryd.underlying31 h
  obtain ⟨c0, c1, rfl⟩ : ∃ c0 c1, cs = [c0, c1] := by
    rw [cellsPt] at hlen
    match cs, hlen with
    | [c0, c1], _ => exact ⟨c0, c1, rfl⟩
  have hc : Tryd.prog.cellsOf 3 = 1 := by kernel_rfl
  have h0' := h0; have h1' := h1
  simp [hc] at h0'
  simp [hc] at h1'
  obtain ⟨a, e0, -, -⟩ := DataW.trod_int Tryd.underlying3 h0'
  obtain ⟨b, e1, -, -⟩ := DataW.trod_int Tryd.underlying3 h1'
  simp at e0 e1
  subst e0 e1
  exact ⟨a, b, rfl⟩
theorem open_pts {H : Type} {enc : TypeId × Value → H} {W : World} {base b0 : Nat} {spare : Nat → Bool} {held : Bool} {r : Reach} {v : Value} {d : DataW H} {p : List MemPlace}
    (hv : Value.okWide Tryd.prog W r b0 22 v) (h : DataW.Trod enc Tryd.prog W base spare held 22 v d p) :
    ∃ (a : Option Addr) (len cap : Nat) (l : List (Int × Int)), v = .slice a len cap ∧ ShowsP W a len l := by
  obtain ⟨a, len, cap, rfl⟩ := okWide_slice Tryd.underlying22 hv
  obtain ⟨fuel, hf⟩ := h
  rcases DataW.trod_slice Tryd.underlying22 hf with ⟨hcs, -⟩ | ⟨ad, l', c', elems, rest, n, -, hcs, -, hb, hl, hm, hlen, hel, -, -⟩
  · simp [Value.cells] at hcs
    obtain ⟨rfl, rfl, rfl⟩ := hcs
    exact ⟨none, 0, 0, [], rfl, rfl, SeesE.nil, by simp⟩
  · simp [Value.cells] at hcs
    obtain ⟨rfl, rfl, rfl⟩ := hcs
    obtain ⟨b, off, spot⟩ := ad
    have each : ∀ i, i < len → ∃ x : Int × Int, W.cell? ((⟨b, off, spot⟩ : Addr).add (i * 2)) = some (.int .i64 x.1) ∧ W.cell? (((⟨b, off, spot⟩ : Addr).add (i * 2)).add 1) = some (.int .i64 x.2) := by
      intro i hi
      obtain ⟨y, hy⟩ : ∃ y, elems[i]? = some y := ⟨_, List.getElem?_eq_getElem (by omega)⟩
      have h1 := hel i hi
      rw [hy, cellsPt, Option.bind_eq_some_iff] at h1
      obtain ⟨cs, hcs, ht⟩ := h1
      obtain ⟨a, b, rfl⟩ := trod_pt ht
      have h2 := (World.cells?_some hcs).2.2
      exact ⟨(a, b), by have := h2 0 (by omega); simpa [Addr.add] using this, by have := h2 1 (by omega); simpa using this⟩
    have hf2 : ∀ i : Nat, ∃ x : Int × Int, i < len → W.cell? ((⟨b, off, spot⟩ : Addr).add (i * 2)) = some (.int .i64 x.1) ∧ W.cell? (((⟨b, off, spot⟩ : Addr).add (i * 2)).add 1) = some (.int .i64 x.2) := fun i => by
      by_cases hi : i < len
      · obtain ⟨x, hx⟩ := each i hi; exact ⟨x, fun _ => hx⟩
      · exact ⟨(0, 0), fun h => absurd h hi⟩
    let f : Nat → Int × Int := fun i => Classical.choose (hf2 i)
    have hff : ∀ i, i < len → W.cell? ((⟨b, off, spot⟩ : Addr).add (i * 2)) = some (.int .i64 (f i).1) ∧ W.cell? (((⟨b, off, spot⟩ : Addr).add (i * 2)).add 1) = some (.int .i64 (f i).2) := fun i => Classical.choose_spec (hf2 i)
    clear_value f
    refine ⟨_, _, _, (List.range len).map f, rfl, by simp, fun j x hj => ?_, by unfold maxLen at hm; simp; omega⟩
    simp only [List.getElem?_map, Option.map_eq_some_iff] at hj
    obtain ⟨i, hi, rfl⟩ := hj
    have hil : i < len := by have := List.mem_of_getElem? hi; simpa using this
    obtain rfl : i = j := by
      have := (List.getElem?_eq_some_iff.1 hi).2
      simpa using this.symm
    have hspot : spot = none := by
      have h0 := (hff 0 (by omega)).1
      simpa [Addr.add] using World.cell?_spot h0
    subst hspot
    obtain ⟨g0, g1⟩ := hff i hil
    rw [add_none] at g0 g1
    rw [add_none] at g1
    refine ⟨b, off, rfl, World.block_lt_of_cell? W _ g0, fun k u hu => ?_⟩
    match k, hu with
    | 0, hu => simp [encPoint] at hu; subst hu; exact g0
    | 1, hu => simp [encPoint] at hu; subst hu; exact g1
    | k + 2, hu => simp [encPoint] at hu
end Go.Proofs.YtbnjaaegbmhopaaDoor
end
section
/- What the statements list of errNoRing, as the walks read it. -/
namespace Go.Proofs.YtbnjaaegbmhopaaDoor
open Go.ChangeShapes Go.WideShapes Go.ChangeAt Go.RowKit Go.Stop
set_option linter.unusedVariables false
set_option maxRecDepth 100000

theorem errName : Tryd.prog.globalNamed "loop.example/g03005/impl.errNoRing" = some 0 := by kernel_rfl
theorem errType : (Tryd.prog.globals[0]?).map (·.type) = some 56 := by kernel_rfl
theorem errStar : "*" ++ "errors.errorString" = "*errors.errorString" := by decide
theorem errRow (u : TypeId) (h : Tryd.prog.typeName? 3 u = some "*errors.errorString") : u = 162 :=
  typeName_ptr_named (nm := "errors.errorString") (by rw [errStar]; kernel_rfl) (by kernel_rfl) (by decide) u (by rw [errStar]; exact h)
theorem errCells : Tryd.prog.cellsOf 187 = 1 := by kernel_rfl
theorem strCells : Tryd.prog.cellsOf 9 = 1 := by kernel_rfl
theorem errAt_of {w : World} (hL : laidMet Tryd.prog [("loop.example/g03005/impl.errNoRing", Rows.laid_loop_example_g03005_impl_errNoRing)] w) : ∃ a0, ErrAt a0 w := by
  obtain ⟨a, s, hv, -, -, -⟩ := laid_sentinel (tp := 162) (te := 187) (ts := 9) hL errName errType Tryd.underlying56 errRow Tryd.underlying162 Tryd.underlying187 rfl rfl Tryd.underlying9 errCells strCells
  exact ⟨a, by have := World.var?_cell errName hv 0; simpa [ErrAt] using this⟩
theorem errVar_of {w : World} (hL : laidMet Tryd.prog [("loop.example/g03005/impl.errNoRing", Rows.laid_loop_example_g03005_impl_errNoRing)] w) : ∃ a0, w.var? Tryd.prog "loop.example/g03005/impl.errNoRing" = some #[.iface 162 (.pointer (some a0))] := by
  obtain ⟨a, s, hv, -, -, -⟩ := laid_sentinel (tp := 162) (te := 187) (ts := 9) hL errName errType Tryd.underlying56 errRow Tryd.underlying162 Tryd.underlying187 rfl rfl Tryd.underlying9 errCells strCells
  exact ⟨a, hv⟩
theorem errVars {H : Type} (enc : TypeId × Value → H) {W : World} {a0 : Addr} (h : W.var? Tryd.prog "loop.example/g03005/impl.errNoRing" = some #[.iface 162 (.pointer (some a0))]) (sp : Nat → Bool) :
    DataW.TrodVars enc Tryd.prog W sp ["loop.example/g03005/impl.errNoRing"] [tok enc (.iface 162 (.pointer (some a0)))] [.cell 0 0] :=
  vars_read1 enc errName errType Tryd.underlying56 h trivial sp
theorem errVar_below {W W' : World} {a0 : Addr} (h : W.var? Tryd.prog "loop.example/g03005/impl.errNoRing" = some #[.iface 162 (.pointer (some a0))]) (hb : Below W.heap.size W W') : W'.var? Tryd.prog "loop.example/g03005/impl.errNoRing" = some #[.iface 162 (.pointer (some a0))] :=
  var?_below hb errName (World.block_lt_of_cell? _ _ (World.var?_cell errName h 0)) h
end Go.Proofs.YtbnjaaegbmhopaaDoor
end
section
/- The exact law of IsInside. -/
namespace Go.Proofs.YtbnjaaegbmhopaaDoor
open Go.ChangeShapes Go.WideShapes Go.ChangeAt Go.RowKit
set_option linter.unusedVariables false

theorem OwnE.capLe {α : Type} {n : Nat} {enc : α → List Value} {w : World} {B : Nat} {e : TypeId} {A : Option Addr} {m c : Nat} {L : List α} (h : OwnE n enc w B e (.slice A m c) L) : (c : Int) ≤ 9223372036854775807 := by
  obtain ⟨A', c', hv, hc, -⟩ := h.form
  simp only [Value.slice.injEq] at hv
  unfold maxLen at hc
  omega
set_option maxRecDepth 100000 in
set_option maxHeartbeats 2000000 in
theorem law_FnExactIsInside (w : World) (a0 : Addr) (hE : ErrAt a0 w) (pa0 : Option Addr) (len0 cap0 : Nat) (l0 : List (Int × Int)) (ws0 : ShowsP w pa0 len0 l0) (x1 y1 : Int) (wx1 : (Lit.int .i64 x1).wf = true) (wy1 : (Lit.int .i64 y1).wf = true) :
    Calls Tryd.prog 5 #[.slice pa0 len0 cap0, PtV x1 y1] w fun e w' => e = .returned (.bool true) ∧ Below w.heap.size w w' := by
  obtain ⟨rfl, hs0, hm0⟩ := ws0
  have HS0 := Lib.hid hs0; clear hs0
  have HE := Lib.hid hE; clear hE
  obtain ⟨z, hz⟩ : ∃ z, inV l0 (x1, y1) = z := ⟨_, rfl⟩
  have HZ := Lib.hid hz; clear hz
  go_enter Tryd.func5, Tryd.ntmps5
  by_cases hc0 : (l0.length : Int) ≤ 1048576
  · skip
    go_wp2_with fail
    refine (szPointS_yes pa0 l0.length cap0 1048576 _ hc0 (by omega)).mono ?_
    rintro e w9 ⟨rfl, rfl⟩
    have hlt0 : ¬ ((1048576 : Int) - (l0.length : Int) < 0) := by omega
    have hlb0 : l0.length ≤ 1048576 := by omega
    have HB := Lib.hid ((Below.refl w.heap.size w).alloc (Nat.le_refl _) (.cells #[.int .i64 x1, .int .i64 y1] 31))
    have HP := Lib.hid (Vars.of1 w #[.int .i64 x1, .int .i64 y1] 31)
    generalize w.alloc (.cells #[.int .i64 x1, .int .i64 y1] 31) = w1 at HB HP ⊢
    have hq := HP.out.c20
    have HBd := Lib.hid HB.out.drew
    have HPd := Lib.hid HP.out.drew
    have HSd := Lib.hid ((HS0.out.below HBd.out).mono HBd.out.size)
    have HQd := Lib.hid HPd.out.c20
    have hlb2 : l0.length ≤ 274877906944 := by omega
    have hlb3 : l0.length ≤ 1099511627776 := by omega
    go_wp2_with fail
    go_region_held3 (fun w' => w'.cell? ⟨w.heap.size, 0, none⟩ = some (.int .i64 x1) ∧ w'.cell? ⟨w.heap.size, 1, none⟩ = some (.int .i64 y1)) (first | with_reducible exact hq | with_reducible exact HQd.out | with_reducible exact HQa.out | with_reducible exact HQb.out | with_reducible exact HQc.out) (first
      | (go_at_call 10; refine (toPointS_any pa0 cap0 l0 _ HSd.out hlb3).mono ?_; rintro e wa ⟨At, ct, Lt, HLt, rfl, hot, hba⟩; obtain rfl : l0 = Lt := HLt.out.symm; have HBa := Lib.hid (HBd.out.trans (hba.mono HBd.out.size)); have HPa := Lib.hid (HPd.out.next hba); have HQa := Lib.hid HPa.out.c20; have HOa := Lib.hid hot)
      | (go_at_call 16; refine (toPoint_any x1 y1 _).mono ?_; rintro e wb ⟨rfl, hbb⟩; have HBb := Lib.hid (HBa.out.trans (hbb.mono HBa.out.size)); have HPb := Lib.hid (HPa.out.next hbb); have HQb := Lib.hid HPb.out.c20; have HOb := Lib.hid (HOa.out.belowAll hbb))
      | (go_at_call 15; refine (sIsInside_is At ct l0 x1 y1 _ (HOb.out.sees elPoint) hlb2 z HZ.out).mono ?_; rintro e wc ⟨rfl, hbc⟩; have HBc := Lib.hid (HBb.out.trans (hbc.mono HBb.out.size)); have HPc := Lib.hid (HPb.out.next hbc); have HQc := Lib.hid HPc.out.c20) | fail)
    all_goals
      clear HQd HQa HQb HPd HPa HPb HBd HBa HBb HOa HOb HSd hq
      go_wp2_with fail
      refine (toPointS_any pa0 cap0 l0 wc ((HS0.out.below HBc.out).mono HBc.out.size) hlb3).mono ?_
      rintro e wd ⟨Ax, cx, Lx, HLx, rfl, hox, hbd⟩
      obtain rfl : l0 = Lx := HLx.out.symm
      have HBd := Lib.hid (HBc.out.trans (hbd.mono HBc.out.size)); have HPd := Lib.hid (HPc.out.next hbd); have HOd := Lib.hid hox
      obtain ⟨q0, q1⟩ := HPd.out.c20
      clear hox hbd
      go_wp2_with (first
        | (go_at_call 16; refine (toPoint_any x1 y1 _).mono ?_; rintro e we ⟨rfl, hbe⟩; have HBe := Lib.hid (HBd.out.trans (hbe.mono HBd.out.size)); have HOe := Lib.hid (HOd.out.belowAll hbe))
        | (go_at_call 17; refine (isInside_is a0 Ax cx l0 x1 y1 _ (HE.out.all HBe.out) (HOe.out.sees elPoint) hlb2 HOe.out.cap HOe.out.capLe z HZ.out).mono ?_; rintro e wf ⟨rfl, hbf⟩; have HBf := Lib.hid (HBe.out.trans (hbf.mono HBe.out.size)); have HOf := Lib.hid (HOe.out.belowAll hbf)))
      refine (toPointS_any pa0 cap0 l0 wf ((HS0.out.below HBf.out).mono HBf.out.size) hlb3).mono ?_
      rintro e wg ⟨Ay, cy, Ly, HLy, rfl, hoy, hbg⟩
      obtain rfl : l0 = Ly := HLy.out.symm
      have HBg := Lib.hid (HBf.out.trans (hbg.mono HBf.out.size)); have HOg := Lib.hid (HOf.out.belowAll hbg); have HOy := Lib.hid hoy
      clear hoy hbg
      go_wp2_with fail
      refine (eqPointS_yes Ax Ay cx cy l0 l0 wg (HOg.out.sees elPoint) (HOy.out.sees elPoint) rfl hlb3).mono ?_
      rintro e wh ⟨rfl, hbh⟩
      go_wp2
      go_ret
      exact ⟨rfl, HBg.out.trans (hbh.mono HBg.out.size)⟩
  · go_wp2_with fail
    refine (szPointS_no pa0 l0.length cap0 1048576 _ (by omega) (by omega) hm0).mono ?_
    rintro e w9 ⟨rfl, rfl⟩
    go_wp2
    go_ret
    exact ⟨rfl, (Below.refl w.heap.size w).alloc (Nat.le_refl _) _⟩
theorem law_FnExactIsInside_laid (w : World) (pa0 : Option Addr) (len0 cap0 : Nat) (l0 : List (Int × Int)) (ws0 : ShowsP w pa0 len0 l0) (x1 y1 : Int) (wx1 : (Lit.int .i64 x1).wf = true) (wy1 : (Lit.int .i64 y1).wf = true) (hL : laidMet Tryd.prog Rows.fnExactIsInsideRow.laid w) :
    Calls Tryd.prog 5 #[.slice pa0 len0 cap0, PtV x1 y1] w fun e w' => e = .returned (.bool true) ∧ Below w.heap.size w w' := by
  obtain ⟨a0, hE⟩ := errAt_of hL
  exact law_FnExactIsInside w a0 hE pa0 len0 cap0 l0 ws0 x1 y1 wx1 wy1
end Go.Proofs.YtbnjaaegbmhopaaDoor
end
section
namespace Go.Proofs.YtbnjaaegbmhopaaDoor.fnExactIsInside
open Go.ChangeShapes Go.WideShapes Go.ChangeAt Go.WideMaps Go.WideElems Go.RowKit
open Go.ChangeMaps (open_string shut_string)
set_option linter.unusedVariables false

theorem own : ownKnob Tryd.prog.godebug = none := by kernel_rfl
theorem laidOut : laidOutB Tryd.prog = true := by kernel_rfl

/-- What the package-level variables hold behind the program's own initialisers meets the row's condition. -/
theorem door_met (os : Os) (args : Array Value) : laidMetH Tryd.prog Rows.fnExactIsInsideRow.laid ((World.doorLaid Tryd.prog 28 os).forCall (fun _ _ => 0) ⟨#[], args, []⟩).memory :=
  laidMetH_of_parts3 (fuel := 8) (laidMet_of_run' 8 (by kernel_rfl) (by kernel_rfl)) (by kernel_rfl) (by kernel_rfl)

set_option maxRecDepth 100000 in
theorem lifted (os : Os) (started : os.Started) (H : Type) (enc : TypeId × Value → H) :
    ReturnsInHanded {} Tryd.checked os 5 .any (fun w args => (Rows.fnExactIsInsideSpec.pre enc Tryd.prog Tryd.f5 [] false w args ∧ laidMetH Tryd.prog Rows.fnExactIsInsideRow.laid w) ∧ sizedMet enc Tryd.prog Tryd.f5 (OpenSpec.ofChange Rows.fnExactIsInsideSpec) false w args)
      (Rows.fnExactIsInsideSpec.post enc Tryd.prog Tryd.f5 false true false false) := by
  refine returnsInHanded_of_change_and (C := Tryd.checked) (X := fun w _ => laidMetH Tryd.prog Rows.fnExactIsInsideRow.laid w) (fun _ _ _ hh h => h.of_heap hh) own started (by kernel_rfl) Tryd.func5
    (ChangeSpec.witness_shaped (enc := enc) (C := Tryd.checked) (os := os) (X := fun w _ => laidMetH Tryd.prog Rows.fnExactIsInsideRow.laid w) false (World.doorLaid Tryd.prog 28 os) #[.slice none 0 0, .agg #[.int .i64 0, .int .i64 0]] 8 rfl (World.shaped_of_RefB (by kernel_rfl) (by kernel_rfl)) (by kernel_rfl) (by kernel_rfl) (by kernel_rfl) (door_met os _)) ?_
  intro W base args ds gs before hval0 hW _ hsz0 hL0 _
  have hsz : (DataW.weightsEach Tryd.prog (Tryd.f5.params.toList ++ Rows.fnExactIsInsideSpec.plain.varTypes Tryd.prog) (ds ++ gs)).all (· ≤ reachBytes) = true := hsz0
  clear hsz0
  have hL : laidMet Tryd.prog Rows.fnExactIsInsideRow.laid W := by rw [MakeChecks.laidMetH_plain _ _ _ (by kernel_rfl)] at hL0; exact hL0
  have hval : ∀ (j : Nat) t v, Tryd.f5.params[j]? = some t → args[j]? = some v → Value.okWide Tryd.prog W .any base t v := hval0
  have hW' := hW
  obtain ⟨p, q, hA0, hV, rfl, hfz, hnd⟩ := hW
  have hA : DataW.TrodAll enc Tryd.prog W 0 (fun _ => true) true Tryd.f5.params.toList args.toList ds p := hA0
  rw [Tryd.params5] at hA hval hsz
  obtain ⟨v0, vs0, d0, ds0, p0, q0, hargs, rfl, rfl, h0, r0⟩ := trodAll_cons hA
  obtain ⟨v1, vs1, d1, ds1, p1, q1, rfl, rfl, rfl, h1, r1⟩ := trodAll_cons r0
  obtain ⟨rfl, rfl, rfl⟩ := trodAll_nil r1
  obtain rfl : args = #[v0, v1] := by cases args; simp_all
  obtain ⟨a0, hv0⟩ := errVar_of hL
  have hV1 : DataW.TrodVars enc Tryd.prog W (fun _ => true) ["loop.example/g03005/impl.errNoRing"] gs q := hV
  obtain ⟨rfl, rfl⟩ := hV1.unique (errVars enc hv0 _)
  have k0 := h0
  have lt0 : ∀ x ∈ p0, x.block < W.heap.size := by obtain ⟨m, hm⟩ := k0; exact DataW.trod_lt m _ _ _ hm
  obtain ⟨pa0, len0, cap0, l0, rfl, ws0⟩ := open_pts (hval 0 22 v0 rfl rfl) h0
  have k1 := h1
  have lt1 : ∀ x ∈ p1, x.block < W.heap.size := by obtain ⟨m, hm⟩ := k1; exact DataW.trod_lt m _ _ _ hm
  obtain ⟨x1, y1, rfl, wx1, wy1⟩ := open_pt (hval 1 31 v1 rfl rfl) h1
  clear hA0 hval0
  refine (law_FnExactIsInside_laid W pa0 len0 cap0 l0 ws0 x1 y1 wx1 wy1 hL).mono fun e W' ⟨he, bel⟩ => ?_
  subst he
  exact ⟨_, rfl, _, _, _, [], _, _, hW', trodAll_mk1 (shut_bool Tryd.underlying4 _), (trodAll_cons_mk (Below.trod laidOut (by kernel_rfl) (of_decide_eq_true (by kernel_rfl)) k0 bel lt0) (trodAll_cons_mk (Below.trod laidOut (by kernel_rfl) (of_decide_eq_true (by kernel_rfl)) k1 bel lt1) trodAll_mk0)), errVars enc (errVar_below hv0 bel) _, bel.frame _, fun h => by cases h⟩

theorem over : Rows.fnExactIsInsideRow.holds Tryd.pinned (OpenSpec.ofChange Rows.fnExactIsInsideSpec) :=
  OpenClaim.holds_of_wide 5 Tryd.f5 rfl rfl rfl rfl rfl rfl rfl ⟨rfl, rfl, rfl, rfl, rfl⟩ rfl rfl rfl rfl rfl (by kernel_rfl) Tryd.func5 (by kernel_rfl)
    (of_decide_eq_true (by kernel_rfl)) (by unfold Func.isWrapper; first | (rw [if_pos (by decide +kernel)]; kernel_rfl) | (rw [if_neg (by decide +kernel)]; exact ⟨rfl, rfl⟩))
    (fun os started H enc _ => lifted os started H enc)

/-- THE STATEMENT. -/
theorem proved : Rows.FnExactIsInsideCardSaid :=
  Claim7.holds_tied_plain_at .later [] [.sentinel] true (true, "0c1df87fee66ea7df00567f92dbc08ccfacd06d53b622fdf9cf6929ab31f35f8") true
    over (fun _ h => by cases h) (by kernel_rfl) (fun _ h => by cases h) fnExactIsInside_row_tie rfl ⟨rfl, rfl⟩ (by kernel_rfl) rfl
    (fun f fn hf hfn => by
      obtain rfl : f = 5 := Option.some.inj ((show Tryd.prog.funcNamed "loop.example/g03005/laws.FnExactIsInside" = some 5 by kernel_rfl).symm.trans hf) |>.symm
      obtain rfl : fn = Tryd.f5 := (Option.some.inj (Tryd.func5.symm.trans hfn)).symm
      exact ⟨by kernel_rfl, fun j t ht => by
        rw [Tryd.params5] at ht
        have hm : t ∈ [22, 31] := by simpa using Array.mem_of_getElem? ht
        have hall : ([22, 31].all fun u => !Tryd.prog.wantsStandIn u) = true := by kernel_rfl
        exact (show Tryd.prog.wantsStandIn t = false by simpa using List.all_eq_true.1 hall t hm)⟩)
    (by kernel_rfl)
#print axioms proved
end Go.Proofs.YtbnjaaegbmhopaaDoor.fnExactIsInside
end
