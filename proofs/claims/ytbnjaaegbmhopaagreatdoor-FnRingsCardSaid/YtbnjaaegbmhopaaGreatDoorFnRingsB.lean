/- For every code, the rings that are drawn from it change the sign of their area when they are turned, keep it when they are rotated, and hold their corners. -/
import Derived.Test.YtbnjaaegbmhopaaGreatDoorRing
import Derived.Test.YtbnjaaegbmhopaaGreatDoorTurn
import Derived.Test.YtbnjaaegbmhopaaGreatDoorConcat
import Derived.Test.YtbnjaaegbmhopaaGreatDoorLineJ
import Derived.Test.YtbnjaaegbmhopaaGreatDoorChecked
import Derived.WalkKit
import Derived.LaidEql
import Derived.Stop.Asserts
import Derived.RowKitTokens
import Derived.Test.YtbnjaaegbmhopaaGreatDoorStepE
import Derived.Test.YtbnjaaegbmhopaaGreatDoorLine
import Derived.Test.YtbnjaaegbmhopaaGreatDoorHelpE
import Derived.Test.YtbnjaaegbmhopaaGreatDoorRows
import Derived.Stop.LaidErr
import Derived.LaidMore
import Derived.Test.YtbnjaaegbmhopaaGreatDoorDrawRing
import Derived.Test.YtbnjaaegbmhopaaGreatDoorTie
import Derived.Test.YtbnjaaegbmhopaaGreatDoorCards
import Derived.ProofKit
import Derived.OpenShut
import Derived.ShutString
import Derived.SizedLaws
import Derived.Stop.Joined
import Derived.SevenTiedAt
import Derived.Below
section
/- Rings: a ring's segments meet in turn. -/
namespace Go.Proofs.YtbnjaaegbmhopaaGreatDoor
open Go.RowKit
set_option linter.unusedVariables false

theorem howS_ok {u v : Int × Int × Int × Int} (h : howS u v ≠ 0) : sOk u = true ∧ sOk v = true := by
  by_cases hh : isS u.1 u.2.1 u.2.2.1 u.2.2.2 = true ∧ isS v.1 v.2.1 v.2.2.1 v.2.2.2 = true
  · exact hh
  · exact absurd (how_no hh) h
theorem ite_iff {p q : Prop} [Decidable p] [Decidable q] (h : p ↔ q) {a b : Int} : (if p then a else b) = if q then a else b := by
  by_cases hp : p
  · rw [if_pos hp, if_pos (h.1 hp)]
  · rw [if_neg hp, if_neg (fun k => hp (h.2 k))]
theorem turn_cyc {S : List (Int × Int × Int × Int)} : turnV true S = true ↔ CycOk S := by
  unfold turnV
  rw [decide_eq_true_eq]
  constructor
  · intro h
    refine cycOk_of fun i k u v hu hv hk => ?_
    have := h i (List.getElem?_eq_some_iff.1 hu).1 k hk
    rw [prOk_at hv hu, beq_iff_eq, howS_comm] at this
    rw [this]
    unfold wantC
    have e : (k + 1 = i ∨ (true = true ∧ k = 0 ∧ i + 1 = S.length)) ↔ adjC S.length i k := by rw [show (true = true) = True from eq_self true, true_and]; unfold adjC; omega
    exact ite_iff e
  · intro h k hk i hi
    obtain ⟨u, hu⟩ : ∃ u, S[i]? = some u := ⟨_, List.getElem?_eq_getElem (by omega)⟩
    obtain ⟨v, hv⟩ : ∃ v, S[k]? = some v := ⟨_, List.getElem?_eq_getElem hk⟩
    rw [prOk_at hu hv, beq_iff_eq, h i k u v hu hv (by omega)]
    unfold wantC
    have e : adjC S.length i k ↔ (i + 1 = k ∨ (true = true ∧ i = 0 ∧ k + 1 = S.length)) := by rw [show (true = true) = True from eq_self true, true_and]; unfold adjC; omega
    exact ite_iff e
/-- It need not be asked whether each is valid. -/
theorem isRg_turn (l : List (Int × Int)) : isRg l = (inB l.length 3 10 && turnV true (rgS l)) := by
  rw [Bool.eq_iff_iff, isRg_iff, Bool.and_eq_true, turn_cyc]
  have hn := rgS_len l
  constructor
  · rintro ⟨h1, -, h3⟩
    exact ⟨by simp only [inB, decide_eq_true_eq]; omega, h3⟩
  · rintro ⟨h1, h3⟩
    have hl : 3 ≤ l.length ∧ l.length ≤ 10 := by simp only [inB, decide_eq_true_eq] at h1; omega
    refine ⟨hl, fun s hs => ?_, h3⟩
    obtain ⟨i, hi⟩ := List.getElem?_of_mem hs
    have hil := (List.getElem?_eq_some_iff.1 hi).1
    by_cases h0 : i = 0
    · obtain ⟨v, hv⟩ : ∃ v, (rgS l)[1]? = some v := ⟨_, List.getElem?_eq_getElem (by omega)⟩
      have := h3 i 1 s v hi hv (by omega)
      rw [if_pos (by unfold adjC; omega)] at this
      exact (howS_ok (by rw [this]; decide)).1
    · obtain ⟨v, hv⟩ : ∃ v, (rgS l)[i - 1]? = some v := ⟨_, List.getElem?_eq_getElem (by omega)⟩
      have := h3 i (i - 1) s v hi hv (by omega)
      rw [if_pos (by unfold adjC; omega)] at this
      exact (howS_ok (by rw [this]; decide)).1
theorem rotV_zero (l : List (Int × Int)) : rotV l 0 = l := by
  unfold rotV; split
  · simp
  · rfl
end Go.Proofs.YtbnjaaegbmhopaaGreatDoor
end
section
/- Lines: slices.AppendSeq over the iterator, and SegmentsOf of package impl. -/
namespace Go.Proofs.YtbnjaaegbmhopaaGreatDoor
open Go.ChangeShapes Go.WideShapes Go.ChangeAt Go.RowKit Go.Shelf
set_option linter.unusedVariables false
attribute [local go_sem] Oper.semAt_some

theorem newSeg_cells (W : World) (x : Int × Int × Int × Int) (T : TypeId) : ∀ j u, (encSegment x)[j]? = some u → (W.alloc (.cells (sC x) T)).cell? ((⟨W.heap.size, 0, none⟩ : Addr).add j) = some u := fun j u hu => by
  rw [add_none]
  have := (Laid.new W T (sC x)).cell (k := j) (v := u) (by rw [← hu]; exact List.getElem?_toArray)
  simpa using this
theorem cellsSeg_snoc (pre : List (Int × Int × Int × Int)) (x : Int × Int × Int × Int) : cellsE encSegment (pre ++ [x]) = cellsE encSegment pre ++ encSegment x := by rw [cellsE_app]; simp [cellsE]
set_option maxRecDepth 100000 in
set_option maxHeartbeats 4000000 in
theorem appendSeq_any (Bx M n0 c1 : Nat) (A1 : Option Addr) (l : List (Int × Int)) (v0 : Value) (w : World) (bA : Boxed w Bx 24 (.slice A1 l.length c1)) (hs : SeesE 2 encPoint w M A1 l) (hMn : M ≤ n0) (hn0 : n0 ≤ w.heap.size) (hl : l.length ≤ 1000)
    (ho : OwnE 4 encSegment w n0 78 v0 []) :
    Calls Tryz.prog 109 #[v0, .func (.func 115) #[] #[.pointer (some ⟨Bx, 0, none⟩)]] w fun e w' => ∃ v, e = .returned v ∧ OwnE 4 encSegment w' n0 78 v (jts l) ∧ Below n0 w w' := by
  have HO := Lib.hid ho
  refine (callsIn_wide (n := 8)).1 ?_
  refine callsIn_of_wp_marks Tryz.func109 rfl trivial ?_ rfl
  simp only [Tryz.ntmps109, List.size_toArray, List.length_cons, List.length_nil, Nat.reduceAdd, Nat.reduceSub, Array.replicate_succ, Array.replicate_zero, List.push_toArray, List.append_toArray, List.nil_append, List.cons_append]
  have hBl := bA.lt
  have hv1 : v0.oneCell' = true := by obtain ⟨A, c, rfl, -⟩ := OwnE.form ho; rfl
  gi_wp2
  have bS := Boxed.new w 38 v0
  have bA := bA.alloc (.cells #[v0] 38)
  have hB0 : Below n0 w (w.alloc (.cells #[v0] 38)) := (Below.refl _ w).alloc hn0 _
  have hs0 := hs.alloc (Nat.le_trans hMn hn0) (.cells #[v0] 38)
  have ho0 := HO.out.alloc (.cells #[v0] 38)
  have hsz : (w.alloc (.cells #[v0] 38)).heap.size = w.heap.size + 1 := by simp
  obtain ⟨W0, hW0⟩ : ∃ W0, w.alloc (.cells #[v0] 38) = W0 := ⟨_, rfl⟩
  rw [hW0] at bS bA hB0 hsz hs0 ho0 ⊢
  clear hW0
  obtain ⟨i0, hi, hz0, hz1, hz2⟩ := info_parts infoSegment
  refine wpIn_rangeFunc_ownH rfl (by omega) (gf := 115) (lb := #[.pointer (some ⟨Bx, 0, none⟩)]) rfl trivial (enters_of Tryz.func115 (by kernel_rfl) rfl)
    (joints_stops (8 - 1) (by omega) Bx M (fun k => k < M ∨ k = Bx) A1 c1 l (by omega) W0 bA.lt (by omega) (.inr rfl) (fun _ h => .inl h) bA.cell hs0) KpS.t (KpS.book (by intro k hk; have := bA.lt; omega)) (Below.refl _ _) (fun _ => rfl)
    (fun pre W => ((∃ v, Boxed W w.heap.size 38 v ∧ W.ownsRow n0 78 4 v pre.length (cellsE encSegment pre) ∧ True) ∧ Boxed W Bx 24 (.slice A1 l.length c1)) ∧ Below n0 w W)
    (fun _ _ _ => False)
    (OwnFrom.and (OwnFrom.and (Own.from (holdsRow_own n0 w.heap.size 38 78 4 (fun pre => pre.length) (fun pre => cellsE encSegment pre) (fun _ _ => True)) _) (Own.from (boxed_own _ _ _) _)) (ownFrom_below hn0 (by omega)))
    (fun cc _ _ _ _ hs _ _ => hs)
    ⟨⟨⟨v0, bS, ho0, trivial⟩, bA⟩, hB0⟩
    (fun x a' W => ∃ By, w.heap.size < By ∧ Laid W By 78 (sC x) ∧ a' = { tmps := #[v0, .func (.func 115) #[] #[.pointer (some ⟨Bx, 0, none⟩)], .pointer (some ⟨w.heap.size, 0, none⟩), undef, .slice none 0 0, .pointer (some ⟨By, 0, none⟩), .func (.func 115) #[] #[.pointer (some ⟨Bx, 0, none⟩)], sV x, undef, undef, undef, undef, undef], defers := [] })
    (fun x a' _ X Y row hs hg hr => by obtain ⟨Bx, h1, h2, h3⟩ := hs; exact ⟨Bx, h1, laid_own Bx 78 (fun (_ : Unit) => sC x) () X Y row h2 hg (fun r e => (hr r e).2), h3⟩)
    ?assign ?body ?done ?stop
  case assign =>
    rintro y pre x W K ⟨⟨⟨v, bS1, hr1, -⟩, bA1⟩, hB1⟩ hK
    gi_wp2
    exact hK _ _ ((KeepsOthers.alloc _ _).from _) (KpS.alloc _ _) ⟨⟨⟨v, bS1.alloc _, hr1.alloc _, trivial⟩, bA1.alloc _⟩, hB1.alloc (Nat.le_trans hn0 (by have := bS1.lt; omega)) _⟩ ⟨W.heap.size, bS1.lt, Laid.new W _ _, rfl⟩
  case body =>
    rintro y pre x a' W hy hr ⟨⟨⟨v, hv, hrow, -⟩, bA1⟩, hB1⟩ ⟨By, hBy, bX, rfl⟩ hlt
    obtain ⟨x0, x1, x2, x3⟩ := bX.c4
    have hc := hv.cell
    have hnW : n0 ≤ W.heap.size := Nat.le_trans hn0 (by have := hv.lt; omega)
    have hpl : pre.length ≤ 1000 := by rw [jts_len] at hlt; omega
    gi_wp2_with (gi_at_builtin; refine wpListIn_append_own _ rfl _ _ 38 rfl n0 78 i0 _ 4 32 Tryz.underlying38 hi hz0 hz1 hz2 rfl (by decide) _ _ _ rfl (hrow.alloc _) ⟨W.heap.size, 0, none⟩ 1 1 (encSegment x) rfl rfl (newSeg_cells _ _ _) (elSegment.2 x).2 (by simp only [maxLen]; omega) (by omega) (by simp; omega) ?_; intro v' w1 hown' hgrow _; obtain ⟨g', cap', rfl⟩ := ownsRow_succ hown'; obtain ⟨hv1, hv2, hr2, hk2, hb2⟩ := hv.appended (by decide) hrow hnW hn0 hown' hgrow; have hc1 := hv1.cell; have hf1 := hv1.frozen)
    refine ⟨hk2.from _, ((KpS.alloc W _).trans (KpS.grown hgrow fun k e hk => ?_)).trans (KpS.setCell _ _ _ fun hk => ?_), ⟨⟨_, hv2, ?_, trivial⟩, ((bA1.alloc _).kept hgrow (bA1.not_row (by decide) hrow)).other (by omega) _⟩, hB1.trans hb2⟩
    · have h1 := (World.ownsRow.lt hrow k e).1
      rcases hk with hk | hk
      · omega
      · subst hk; exact bA1.not_row (by decide) hrow e.symm
    · dsimp only at hk; omega
    · rw [cellsSeg_snoc, List.length_append]; exact hr2
  case done =>
    rintro D zs W hD rfl ⟨⟨⟨v, hv, hrow, -⟩, bA1⟩, hB1⟩ hK
    have hc := hv.cell
    gi_wp2
    refine ⟨by simp, .inl ⟨_, _, rfl, run_takeDeferred hK, ?_⟩⟩
    exact ⟨_, results_tmp rfl _ _ _, v, rfl, ownsRow_putObj hrow _ hK rfl, hB1.trans (belowK_b (w := w) hn0 W D _ _ (by omega) hK rfl rfl)⟩
  case stop =>
    rintro D cc pre W _ _ h _
    exact h.elim
set_option maxRecDepth 100000 in
theorem segmentsOf_any (A : Option Addr) (c : Nat) (l : List (Int × Int)) (w : World) (hs : SeesE 2 encPoint w w.heap.size A l) (hl : l.length ≤ 1099511627776) :
    Calls Tryz.prog 66 #[.slice A l.length c] w (GivesE 4 encSegment 78 (sgV l) w) := by
  have HS := Lib.hid hs; clear hs
  go_enter Tryz.func66, Tryz.ntmps66
  go_wp2_with (first
    | (go_at_call 110; refine (walkLine_any A c l _ w.heap.size (by simp) (HS.out.alloc (Nat.le_refl _) _) hl).mono ?_; rintro e w1 ⟨Bx, A1, c1, rfl, hBx, bA, hS1, hB1⟩)
    | (go_at_call 109; refine (appendSeq_any Bx w.heap.size w.heap.size c1 A1 (lnV l) _ w1 bA hS1 (Nat.le_refl _) (Nat.le_trans (by simp) hB1.size) (by have := lnV_len l; omega) ((OwnE.lit w w.heap.size 78 (Nat.le_refl _)).belowAll hB1)).mono ?_; rintro e w2 ⟨v, rfl, ho2, hB2⟩))
  go_ret
  obtain ⟨A2, c2, rfl, -, -⟩ := ho2.form
  exact ⟨A2, c2, _, Lib.hid rfl, rfl, ho2, (((Below.refl _ w).alloc (Nat.le_refl _) _).trans (hB1.mono (by simp))).trans hB2⟩
end Go.Proofs.YtbnjaaegbmhopaaGreatDoor
end
section
/- errors.Is at a sentinel of errors.New's make: the sentinel itself, and nil. -/
namespace Go.Proofs.YtbnjaaegbmhopaaGreatDoor
open Go.RowKit Go.Extern.Stop Go.Stop Go.Extern

theorem isTypeOf (v : Value) (w : World) : (Extern.ReflectliteType.typeOf #[.iface 221 v]).run Tryz.prog w = .ok (.iface 151 (.agg #[.pointer (some ⟨1, 221, none⟩)])) w := by kernel_rfl
theorem isComparable (w : World) : ((Extern.ReflectliteType.method fun t => do Extern.Rtype.noPackHeld "Comparable" t; pure (Value.bool (← typeInfo t).comparable)) #[.agg #[.pointer (some ⟨1, 221, none⟩)]]).run Tryz.prog w = .ok (.bool true) w := by kernel_rfl
theorem compCall (w : World) : (callFunc 191 #[.agg #[.pointer (some ⟨1, 221, none⟩)]]).run Tryz.prog w = .ok (.value (.bool true)) w := by
  have h := @run_callFunc_extern Tryz.prog 191 _ (Extern.ReflectliteType.method fun t => do Extern.Rtype.noPackHeld "Comparable" t; pure (Value.bool (← typeInfo t).comparable)) Tryz.func191 (by kernel_rfl) (by kernel_rfl) (by kernel_rfl) (by kernel_rfl)
  rw [h, isComparable]; rfl
set_option maxRecDepth 100000 in
theorem isMethodComparable (v : Value) (w : World) : (Go.method 358 151 v "Comparable").run Tryz.prog w = .ok (191, v) w := by kernel_rfl
theorem isComp : (Tryz.prog.info? 221).map (·.comparable) = some true := by kernel_rfl
theorem isSize : (Tryz.prog.info? 246).map (·.size) = some 1 := by kernel_rfl
-- errors.Is(x, x), x a pointer to an errors.errorString.
set_option maxRecDepth 100000 in
theorem is_same (a : Addr) (w : World) :
    Calls Tryz.prog 46 #[.iface 221 (.pointer (some a)), .iface 221 (.pointer (some a))] w fun e w' => e = .returned (.bool true) ∧ w' = w := by
  obtain ⟨i, hi, hcmp⟩ := Option.map_eq_some_iff.1 isComp
  obtain ⟨j, hj, hjs⟩ := Option.map_eq_some_iff.1 isSize
  have h8 := @run_callFunc_extern Tryz.prog 79 _ Extern.ReflectliteType.typeOf Tryz.func79 (by kernel_rfl) (by kernel_rfl) (by kernel_rfl) (by kernel_rfl)
  have tT := isTypeOf
  have cT := compCall
  have mR := isMethodComparable
  have heq := run_eql_iface_ptr_same (P := Tryz.prog) w a Tryz.underlying73 Tryz.underlying221 hi hcmp hj
  go_enter Tryz.func46, Tryz.ntmps46
  go_wp2
  refine wp_loop_rounds 1 ?_
  rw [rounds_succ]
  go_wp2
  go_ret
  exact ⟨rfl, rfl⟩
-- errors.Is(nil, x).
set_option maxRecDepth 100000 in
theorem is_nil (b : Addr) (w : World) :
    Calls Tryz.prog 46 #[.nilIface, .iface 221 (.pointer (some b))] w fun e w' => e = .returned (.bool false) ∧ w' = w := by
  have hn := run_eql_iface_nil_left (P := Tryz.prog) w 221 (.pointer (some b)) Tryz.underlying73
  go_enter Tryz.func46, Tryz.ntmps46
  go_wp2
  go_ret
  exact ⟨rfl, rfl⟩
end Go.Proofs.YtbnjaaegbmhopaaGreatDoor
end
section
/- joinRing of package impl: the segments of a ring, or the sentinel. -/
namespace Go.Proofs.YtbnjaaegbmhopaaGreatDoor
open Go.ChangeShapes Go.WideShapes Go.ChangeAt Go.RowKit
set_option linter.unusedVariables false

/-- The variable errNoRing holds a pointer to an error of errors.New's make. -/
def ErrAt (a0 : Addr) (w : World) : Prop := w.cell? ⟨0, 0, none⟩ = some (.iface 221 (.pointer (some a0)))
section
variable {a0 : Addr} {w w' : World}
theorem ErrAt.lt (h : ErrAt a0 w) : 0 < w.heap.size := World.block_lt_of_cell? _ _ h
theorem ErrAt.below {B : Nat} (h : ErrAt a0 w) (hb : Below B w w') (hB : 0 < B) : ErrAt a0 w' := (hb.cell (p := ⟨0, 0, none⟩) hB).trans h
theorem ErrAt.all (h : ErrAt a0 w) (hb : Below w.heap.size w w') : ErrAt a0 w' := h.below hb h.lt
theorem ErrAt.drew (h : ErrAt a0 w) : ErrAt a0 w.drew := h
theorem ErrAt.alloc (h : ErrAt a0 w) (o : Obj) : ErrAt a0 (w.alloc o) := h.all ((Below.refl _ w).alloc (Nat.le_refl _) o)
end
set_option maxRecDepth 100000 in
set_option maxHeartbeats 1000000 in
theorem collect_any (Bx c1 : Nat) (A1 : Option Addr) (l : List (Int × Int)) (w : World) (M : Nat) (bA : Boxed w Bx 24 (.slice A1 l.length c1)) (hs : SeesE 2 encPoint w M A1 l) (hM : M ≤ w.heap.size) (hl : l.length ≤ 1000) :
    Calls Tryz.prog 76 #[.func (.func 115) #[] #[.pointer (some ⟨Bx, 0, none⟩)]] w fun e w' => ∃ v, e = .returned v ∧ OwnE 4 encSegment w' w.heap.size 78 v (jts l) ∧ Below w.heap.size w w' := by
  have HS := Lib.hid hs; have HA := Lib.hid bA
  clear hs bA
  go_enter Tryz.func76, Tryz.ntmps76
  go_wp2_with (go_at_call 109; refine (appendSeq_any Bx M w.heap.size c1 A1 l _ _ HA.out HS.out hM (Nat.le_refl _) hl (OwnE.nil _ _ _)).mono ?_; rintro e w2 ⟨v, rfl, ho2, hB2⟩)
  go_ret
  exact ⟨v, rfl, ho2, hB2⟩
/-- What joinRing gives. -/
def JoinOf (a0 : Addr) (l : List (Int × Int)) (w : World) (e : Ending) (w' : World) : Prop :=
  (isRg l = true ∧ ∃ A c L, Hid (L = rgS l) ∧ e = .returned (.tuple #[.slice A L.length c, .nilIface]) ∧ OwnE 4 encSegment w' w.heap.size 78 (.slice A L.length c) L ∧ Below w.heap.size w w') ∨
  (isRg l = false ∧ e = .returned (.tuple #[.slice none 0 0, .iface 221 (.pointer (some a0))]) ∧ Below w.heap.size w w')
set_option maxRecDepth 100000 in
set_option maxHeartbeats 1000000 in
theorem joinRing_any (a0 : Addr) (A : Option Addr) (c : Nat) (l : List (Int × Int)) (w : World) (hE : ErrAt a0 w) (hs : SeesE 2 encPoint w w.heap.size A l) (hl : l.length ≤ 274877906944) (hlc : l.length ≤ c) (hc : (c : Int) ≤ 9223372036854775807) :
    Calls Tryz.prog 45 #[.slice A l.length c] w (JoinOf a0 l w) := by
  have HS := Lib.hid hs; clear hs
  have HE := Lib.hid hE
  go_enter Tryz.func45, Tryz.ntmps45
  cases hin : inB l.length 3 10
  · have HN : Hid (isRg l = false) := Lib.hid (by rw [isRg_turn, hin]; rfl)
    have hE1 : w.drew.cell? ⟨0, 0, none⟩ = some (.iface 221 (.pointer (some a0))) := hE.drew
    unfold ErrAt at hE
    go_wp2_with (go_at_call 48; refine (in_is _ _ _ _ _ hin).mono ?_; rintro e w1 ⟨rfl, rfl⟩)
    go_region_with (fail)
    all_goals
      go_wp2
      go_ret2
      exact .inr ⟨HN.out, rfl, (Below.refl _ w).drew⟩
  · have h310 : 3 ≤ l.length ∧ l.length ≤ 10 := by simp only [inB, decide_eq_true_eq] at hin; omega
    obtain ⟨⟨x, y⟩, hx⟩ : ∃ p, l[0]? = some p := ⟨_, List.getElem?_eq_getElem (by omega)⟩
    obtain ⟨b, off, rfl, hb, -⟩ := HS.out 0 _ hx
    obtain ⟨k0', k1'⟩ := cellsPoint HS.out hx
    have k0 : w.cell? ⟨b, off, none⟩ = some (.int .i64 x) := by simpa using k0'
    have k1 : w.cell? ⟨b, off + 1, none⟩ = some (.int .i64 y) := by simpa using k1'
    clear k0' k1'
    have d0 : (w.alloc (.cells #[.int .i64 x, .int .i64 y] 33)).drew.cell? ⟨b, off, none⟩ = some (.int .i64 x) := (((Below.refl w.heap.size w).alloc (Nat.le_refl _) _).cell (p := ⟨b, off, none⟩) hb).trans k0
    have d1 : (w.alloc (.cells #[.int .i64 x, .int .i64 y] 33)).drew.cell? ⟨b, off + 1, none⟩ = some (.int .i64 y) := (((Below.refl w.heap.size w).alloc (Nat.le_refl _) _).cell (p := ⟨b, off + 1, none⟩) hb).trans k1
    have e0 : w.drew.cell? ⟨b, off, none⟩ = some (.int .i64 x) := k0
    have e1 : w.drew.cell? ⟨b, off + 1, none⟩ = some (.int .i64 y) := k1
    have D0 := Lib.hid d0; have D1 := Lib.hid d1; have E0 := Lib.hid e0; have E1 := Lib.hid e1
    have HB1 : Hid (Below w.heap.size w (w.alloc (.cells #[.int .i64 x, .int .i64 y] 33)).drew) := Lib.hid (((Below.refl _ w).alloc (Nat.le_refl _) _).drew)
    have HS1 : Hid (SeesE 2 encPoint w.drew w.drew.heap.size (some ⟨b, off, none⟩) l) := Lib.hid HS.out.drew
    have HS2 : Hid (SeesE 2 encPoint (w.alloc (.cells #[.int .i64 x, .int .i64 y] 33)).drew (w.alloc (.cells #[.int .i64 x, .int .i64 y] 33)).drew.heap.size (some ⟨b, off, none⟩) l) := Lib.hid ((HS.out.below HB1.out).mono HB1.out.size)
    have HX2 : Hid (SeesE 2 encPoint (w.alloc (.cells #[.int .i64 x, .int .i64 y] 33)).drew (w.alloc (.cells #[.int .i64 x, .int .i64 y] 33)).drew.heap.size (some ⟨w.heap.size, 0, none⟩) [(x, y)]) := Lib.hid ((seesE_new elPoint w (x, y) #[.int .i64 x, .int .i64 y] 33 _ (by show _ < (w.alloc _).heap.size; simp) rfl).drew)
    have HT : Hid (rgS l = jts (rotV l 0 ++ [(x, y)])) := Lib.hid (by
      rw [rotV_zero, rgS]
      cases l with
      | nil => simp at hx
      | cons p t => simp at hx; rw [hx]; rfl)
    have HR : Hid ((rotV l 0).length = l.length) := Lib.hid (by rw [rotV_zero])
    have h9 : l.length ≤ 10 := h310.2
    have HZ : Hid (isRg l = turnV true (rgS l)) := Lib.hid (by rw [isRg_turn, hin, Bool.true_and])
    have i0 : (0 : Int) < (l.length : Int) := by omega
    have i1 : 0 < l.length := by omega
    clear d0 d1 e0 e1 hx h310
    go_wp2_with (go_at_call 48; refine (in_is _ _ _ _ _ hin).mono ?_; rintro e w1 ⟨rfl, rfl⟩)
    go_region_held3 (fun w' => w'.cell? ⟨b, off, none⟩ = some (.int .i64 x) ∧ w'.cell? ⟨b, off + 1, none⟩ = some (.int .i64 y)) (first | with_reducible exact ⟨k0, k1⟩ | with_reducible exact ⟨E0.out, E1.out⟩ | with_reducible exact ⟨D0.out, D1.out⟩ | with_reducible exact hQ.out | with_reducible exact hQ2.out | with_reducible exact hQ3.out) (first
      | (go_at_call 13; refine (rotateRing_any _ c l 0 _ HS1.out hl hlc hc rfl).mono ?_; rintro e w1 ⟨A1, c1, L, hL, rfl, ho1, hb1⟩; have HL := hL; have HO1 := Lib.hid (ho1.alloc (.cells #[.int .i64 x, .int .i64 y] 33)); have hw1 : w.heap.size ≤ w1.heap.size := hb1.size; have HW1 : w.heap.size ≤ (w1.alloc (.cells #[.int .i64 x, .int .i64 y] 33)).heap.size := Nat.le_trans hw1 (by simp); have HX1 := Lib.hid (seesE_new elPoint w1 (x, y) #[.int .i64 x, .int .i64 y] 33 (w1.heap.size + 1) (Nat.lt_succ_self _) rfl); have HL63 : L.length + [(x, y)].length ≤ 1099511627776 := (by rw [HL.out, HR.out]; show l.length + 1 ≤ _; omega); have HBX := Lib.hid (((Below.refl _ w).drew.trans hb1).alloc hw1 (.cells #[.int .i64 x, .int .i64 y] 33)); have hQ := Lib.hid (And.intro ((hb1.cell (World.block_lt_of_cell? _ _ E0.out)).trans E0.out) ((hb1.cell (World.block_lt_of_cell? _ _ E1.out)).trans E1.out)); have hQ2 := Lib.hid (And.intro ((((Below.refl w1.heap.size w1).alloc (Nat.le_refl _) (.cells #[.int .i64 x, .int .i64 y] 33)).cell (World.block_lt_of_cell? _ _ hQ.out.1)).trans hQ.out.1) ((((Below.refl w1.heap.size w1).alloc (Nat.le_refl _) (.cells #[.int .i64 x, .int .i64 y] 33)).cell (World.block_lt_of_cell? _ _ hQ.out.2)).trans hQ.out.2)))
      | (go_at_call 13; refine (rotateRing_any _ c l 0 _ HS2.out hl hlc hc rfl).mono ?_; rintro e w1 ⟨A1, c1, L, hL, rfl, ho1, hb1⟩; have HL := hL; have HO2 := Lib.hid (ho1.mono HB1.out.size); have HW2 : w.heap.size ≤ w1.heap.size := Nat.le_trans HB1.out.size hb1.size; have HX3 := Lib.hid (HX2.out.below hb1); have HL63 : L.length + [(x, y)].length ≤ 1099511627776 := (by rw [HL.out, HR.out]; show l.length + 1 ≤ _; omega); have HBY := Lib.hid (HB1.out.trans (hb1.mono HB1.out.size)); have hQ := Lib.hid (And.intro ((hb1.cell (World.block_lt_of_cell? _ _ D0.out)).trans D0.out) ((hb1.cell (World.block_lt_of_cell? _ _ D1.out)).trans D1.out)))
      | (refine stepPt (w1.alloc (.cells #[.int .i64 x, .int .i64 y] 33)) _ _ (by rfl) w.heap.size _ L (by rfl) HO1.out (w1.heap.size + 1) (some ⟨w1.heap.size, 0, none⟩) 1 1 [(x, y)] (by rfl) (by rfl) HX1.out HL63 HW1 ?_; intro A3 c3 L3 w3 hL3 h2 h3 ho3 hb3; have HL3 : Hid (jts L3 = rgS l) := Lib.hid (by rw [hL3.out, HL.out]; exact HT.out.symm); have HO3 := Lib.hid ho3; have h11 : L3.length ≤ 1000 := (by rw [HL.out, HR.out] at h2; simp only [List.length_singleton] at h2; omega); have HBB := Lib.hid (HBX.out.trans hb3); have hQ3 := Lib.hid (And.intro ((hb3.cell hb).trans hQ2.out.1) ((hb3.cell hb).trans hQ2.out.2)))
      | (refine stepPt w1 _ _ (by rfl) w.heap.size _ L (by rfl) HO2.out (w.alloc (.cells #[.int .i64 x, .int .i64 y] 33)).drew.heap.size (some ⟨w.heap.size, 0, none⟩) 1 1 [(x, y)] (by rfl) (by rfl) HX3.out HL63 HW2 ?_; intro A3 c3 L3 w3 hL3 h2 h3 ho3 hb3; have HL3 : Hid (jts L3 = rgS l) := Lib.hid (by rw [hL3.out, HL.out]; exact HT.out.symm); have HO3 := Lib.hid ho3; have h11 : L3.length ≤ 1000 := (by rw [HL.out, HR.out] at h2; simp only [List.length_singleton] at h2; omega); have HBB := Lib.hid (HBY.out.trans hb3); have hQ3 := Lib.hid (And.intro ((hb3.cell hb).trans hQ.out.1) ((hb3.cell hb).trans hQ.out.2))) | fail)
    all_goals
      go_wp2_with (first
        | (go_at_call 77; refine (jointsOf_any A3 L3.length c3 _).mono ?_; rintro e w4 ⟨rfl, rfl⟩)
        | (go_at_call 76; refine (collect_any w3.heap.size c3 A3 L3 _ w3.heap.size (Boxed.new w3 _ _) ((HO3.out.sees elPoint).alloc (Nat.le_refl _) _) (by simp) h11).mono ?_; rintro e w5 ⟨v, rfl, ho5, hb5⟩; obtain ⟨L5, hL5⟩ : ∃ L5, jts L3 = L5 := ⟨_, rfl⟩; rw [hL5] at ho5; obtain ⟨A5, c5, rfl, -, -⟩ := ho5.form; have HL5 : Hid (L5 = rgS l) := Lib.hid (by rw [← hL5]; exact HL3.out); have HO5 := Lib.hid (ho5.mono (C := w.heap.size) (by simp; exact Nat.le_trans HBB.out.size (by omega))); have HB5 := Lib.hid ((HBB.out.alloc HBB.out.size (.cells #[.slice A3 L3.length c3] 24)).trans (hb5.mono (by simp; exact Nat.le_trans HBB.out.size (by omega))))))
      have h9 : L5.length ≤ 1000 := by rw [HL5.out, rgS_len]; omega
      have HE5 : Hid (ErrAt a0 w5) := Lib.hid (HE.out.all HB5.out)
      cases hz : turnV true L5
      · have HN : Hid (isRg l = false) := Lib.hid (by rw [HZ.out, ← HL5.out]; exact hz)
        refine (meetInTurn_is A5 c5 true L5 _ (HO5.out.sees elSegment) h9 _ hz).mono ?_
        rintro e w6 ⟨rfl, hb6⟩
        have HE6 : ErrAt a0 w6 := HE5.out.all hb6
        have HB6 := Lib.hid (HB5.out.trans (hb6.mono HB5.out.size))
        unfold ErrAt at HE6
        clear hb6
        go_wp2
        go_region_with (fail)
        all_goals
          go_wp2
          go_ret2
          exact .inr ⟨HN.out, rfl, HB6.out.drew⟩
      · have HN : Hid (isRg l = true) := Lib.hid (by rw [HZ.out, ← HL5.out]; exact hz)
        refine (meetInTurn_is A5 c5 true L5 _ (HO5.out.sees elSegment) h9 _ hz).mono ?_
        rintro e w6 ⟨rfl, hb6⟩
        have HB6 := Lib.hid (HB5.out.trans (hb6.mono HB5.out.size))
        have HO6 := Lib.hid (HO5.out.belowAll hb6)
        clear hb6
        go_wp2
        go_ret2
        exact .inl ⟨HN.out, A5, c5, L5, HL5, rfl, HO6.out, HB6.out⟩
end Go.Proofs.YtbnjaaegbmhopaaGreatDoor
end
section
/- IsRing, TwiceArea and RingSegments of package impl. -/
namespace Go.Proofs.YtbnjaaegbmhopaaGreatDoor
open Go.ChangeShapes Go.WideShapes Go.ChangeAt Go.RowKit
set_option linter.unusedVariables false

theorem joinRing_yes (a0 : Addr) (A : Option Addr) (c : Nat) (l : List (Int × Int)) (w : World) (hE : ErrAt a0 w) (hs : SeesE 2 encPoint w w.heap.size A l) (hl : l.length ≤ 274877906944) (hlc : l.length ≤ c) (hc : (c : Int) ≤ 9223372036854775807) (hz : isRg l = true) :
    Calls Tryz.prog 45 #[.slice A l.length c] w fun e w' => ∃ A c L, Hid (L = rgS l) ∧ e = .returned (.tuple #[.slice A L.length c, .nilIface]) ∧ OwnE 4 encSegment w' w.heap.size 78 (.slice A L.length c) L ∧ Below w.heap.size w w' :=
  (joinRing_any a0 A c l w hE hs hl hlc hc).mono fun e w' h => h.elim (fun h => h.2) (fun h => absurd (hz.symm.trans h.1) (by decide))
theorem joinRing_no (a0 : Addr) (A : Option Addr) (c : Nat) (l : List (Int × Int)) (w : World) (hE : ErrAt a0 w) (hs : SeesE 2 encPoint w w.heap.size A l) (hl : l.length ≤ 274877906944) (hlc : l.length ≤ c) (hc : (c : Int) ≤ 9223372036854775807) (hz : isRg l = false) :
    Calls Tryz.prog 45 #[.slice A l.length c] w fun e w' => e = .returned (.tuple #[.slice none 0 0, .iface 221 (.pointer (some a0))]) ∧ Below w.heap.size w w' :=
  (joinRing_any a0 A c l w hE hs hl hlc hc).mono fun e w' h => h.elim (fun h => absurd (hz.symm.trans h.1) (by decide)) (fun h => h.2)
set_option maxRecDepth 100000 in
set_option maxHeartbeats 1000000 in
theorem isRing_is (a0 : Addr) (A : Option Addr) (c : Nat) (l : List (Int × Int)) (w : World) (hE : ErrAt a0 w) (hs : SeesE 2 encPoint w w.heap.size A l) (hl : l.length ≤ 274877906944) (hlc : l.length ≤ c) (hc : (c : Int) ≤ 9223372036854775807) (z : Bool) (hz : isRg l = z) :
    Calls Tryz.prog 10 #[.slice A l.length c] w fun e w' => e = .returned (.bool z) ∧ Below w.heap.size w w' := by
  have HE := Lib.hid hE
  have HS := Lib.hid hs
  clear hE hs
  go_enter Tryz.func10, Tryz.ntmps10
  cases z
  · go_wp2_with fail
    refine (joinRing_no a0 A c l _ HE.out HS.out hl hlc hc hz).mono ?_
    rintro e w1 ⟨rfl, hb1⟩
    have hE1 : ErrAt a0 w1 := HE.out.all hb1
    unfold ErrAt at hE1
    have HB1 := Lib.hid hb1
    clear hb1
    go_wp2_with (go_at_call 46; refine (is_same a0 _).mono ?_; rintro e w2 ⟨rfl, rfl⟩)
    go_ret
    exact ⟨rfl, HB1.out⟩
  · go_wp2_with fail
    refine (joinRing_yes a0 A c l _ HE.out HS.out hl hlc hc hz).mono ?_
    rintro e w1 ⟨A1, c1, L, hL, rfl, ho1, hb1⟩
    have hE1 : ErrAt a0 w1 := HE.out.all hb1
    unfold ErrAt at hE1
    have HB1 := Lib.hid hb1; have HO1 := Lib.hid ho1; have HL := hL
    clear hb1 ho1 hL
    go_wp2_with (go_at_call 46; refine (is_nil a0 _).mono ?_; rintro e w2 ⟨rfl, rfl⟩)
    go_ret
    exact ⟨rfl, HB1.out⟩
/-- The ring's segments, or none. -/
def rsV (l : List (Int × Int)) : List (Int × Int × Int × Int) := if isRg l = true then rgS l else []
theorem rsV_len (l : List (Int × Int)) : (rsV l).length ≤ l.length := by
  unfold rsV; split
  · rw [rgS_len]; exact Nat.le_refl _
  · simp
set_option maxRecDepth 100000 in
set_option maxHeartbeats 1000000 in
theorem ringSegments_any (a0 : Addr) (A : Option Addr) (c : Nat) (l : List (Int × Int)) (w : World) (hE : ErrAt a0 w) (hs : SeesE 2 encPoint w w.heap.size A l) (hl : l.length ≤ 274877906944) (hlc : l.length ≤ c) (hc : (c : Int) ≤ 9223372036854775807) :
    Calls Tryz.prog 17 #[.slice A l.length c] w (GivesE 4 encSegment 78 (rsV l) w) := by
  have HE := Lib.hid hE
  have HS := Lib.hid hs
  clear hE hs
  cases hz : isRg l
  · have HV : Hid (rsV l = []) := Lib.hid (by unfold rsV; rw [hz]; rfl)
    go_enter Tryz.func17, Tryz.ntmps17
    go_wp2_with fail
    refine (joinRing_no a0 A c l _ HE.out HS.out hl hlc hc hz).mono ?_
    rintro e w1 ⟨rfl, hb1⟩
    have hE1 : ErrAt a0 w1 := HE.out.all hb1
    unfold ErrAt at hE1
    have HB1 := Lib.hid hb1
    clear hb1
    go_wp2_with (go_at_call 46; refine (is_same a0 _).mono ?_; rintro e w2 ⟨rfl, rfl⟩)
    go_ret
    exact ⟨_, _, [], Lib.hid HV.out.symm, rfl, (OwnE.lit w2 w2.heap.size 78 (Nat.le_refl _)).mono HB1.out.size, HB1.out.alloc HB1.out.size _⟩
  · have HV : Hid (rsV l = rgS l) := Lib.hid (by unfold rsV; rw [hz]; rfl)
    go_enter Tryz.func17, Tryz.ntmps17
    go_wp2_with fail
    refine (joinRing_yes a0 A c l _ HE.out HS.out hl hlc hc hz).mono ?_
    rintro e w1 ⟨A1, c1, L, hL, rfl, ho1, hb1⟩
    have hE1 : ErrAt a0 w1 := HE.out.all hb1
    unfold ErrAt at hE1
    have HB1 := Lib.hid hb1; have HO1 := Lib.hid ho1; have HL := hL
    clear hb1 ho1 hL
    go_wp2_with (go_at_call 46; refine (is_nil a0 _).mono ?_; rintro e w2 ⟨rfl, rfl⟩)
    go_ret
    exact ⟨A1, c1, L, Lib.hid (by rw [HL.out, HV.out]), rfl, HO1.out, HB1.out⟩
/-- The area's sum. -/
def arV (S : List (Int × Int × Int × Int)) : Int := (S.map arS).sum
theorem arV_take {S : List (Int × Int × Int × Int)} {j : Nat} {x : Int × Int × Int × Int} (h : S[j]? = some x) : arV (S.take j) + arS x = arV (S.take (j + 1)) := by
  unfold arV
  rw [List.take_add_one, h, List.map_append, List.sum_append]
  simp
theorem arS_bd {x : Int × Int × Int × Int} (h : sOk x = true) : (0 ≤ x.1 * x.2.2.2 ∧ x.1 * x.2.2.2 ≤ 40000) ∧ (0 ≤ x.2.1 * x.2.2.1 ∧ x.2.1 * x.2.2.1 ≤ 40000) := by
  obtain ⟨h1, h2, -⟩ := isS_at h
  exact ⟨⟨Int.mul_nonneg h1.1 h2.2.2.1, Int.le_trans (Int.mul_le_mul h1.2.1 h2.2.2.2 h2.2.2.1 (by omega)) (by omega)⟩, ⟨Int.mul_nonneg h1.2.2.1 h2.1, Int.le_trans (Int.mul_le_mul h1.2.2.2 h2.2.1 h2.1 (by omega)) (by omega)⟩⟩
theorem arV_bd {S : List (Int × Int × Int × Int)} (h : ∀ x ∈ S, sOk x = true) : -(40000 * (S.length : Int)) ≤ arV S ∧ arV S ≤ 40000 * (S.length : Int) := by
  induction S with
  | nil => simp [arV]
  | cons x t ih =>
    have h1 := ih fun y hy => h y (List.mem_cons_of_mem _ hy)
    have h2 := arS_bd (h x List.mem_cons_self)
    have h3 : arV (x :: t) = arS x + arV t := by simp [arV]
    have h4 : arS x = x.1 * x.2.2.2 - x.2.1 * x.2.2.1 := rfl
    rw [List.length_cons, h3, h4]
    omega
theorem arV_bd_take {S : List (Int × Int × Int × Int)} (h : ∀ x ∈ S, sOk x = true) (hn : S.length ≤ 10) (j : Nat) : -400000 ≤ arV (S.take j) ∧ arV (S.take j) ≤ 400000 := by
  have := arV_bd (S := S.take j) (fun x hx => h x (List.mem_of_mem_take hx))
  have hl : (S.take j).length ≤ 10 := by rw [List.length_take]; omega
  omega
theorem twA_yes {l : List (Int × Int)} (h : isRg l = true) : twA l = arV (rgS l) := by unfold twA; rw [if_pos h]; rfl
theorem twA_no {l : List (Int × Int)} (h : isRg l = false) : twA l = 0 := by unfold twA; rw [h]; rfl
set_option maxRecDepth 100000 in
set_option maxHeartbeats 1000000 in
theorem twiceArea_is (a0 : Addr) (A : Option Addr) (c : Nat) (l : List (Int × Int)) (w : World) (hE : ErrAt a0 w) (hs : SeesE 2 encPoint w w.heap.size A l) (hl : l.length ≤ 274877906944) (hlc : l.length ≤ c) (hc : (c : Int) ≤ 9223372036854775807) (z : Int) (hz : twA l = z) :
    Calls Tryz.prog 11 #[.slice A l.length c] w fun e w' => e = .returned (.int .i64 z) ∧ Below w.heap.size w w' := by
  have HE := Lib.hid hE
  have HS := Lib.hid hs
  have HV := Lib.hid hz
  clear hE hs hz
  cases hz : isRg l
  · obtain rfl : z = 0 := by rw [← HV.out, twA_no hz]
    go_enter Tryz.func11, Tryz.ntmps11
    go_wp2_with fail
    refine (joinRing_no a0 A c l _ HE.out HS.out hl hlc hc hz).mono ?_
    rintro e w1 ⟨rfl, hb1⟩
    have hE1 : ErrAt a0 w1 := HE.out.all hb1
    unfold ErrAt at hE1
    have HB1 := Lib.hid hb1
    clear hb1
    go_wp2_with (go_at_call 46; refine (is_same a0 _).mono ?_; rintro e w2 ⟨rfl, rfl⟩)
    go_ret
    exact ⟨rfl, HB1.out⟩
  · have HOK : Hid ((∀ x ∈ rgS l, sOk x = true) ∧ (rgS l).length ≤ 10) := Lib.hid ⟨((isRg_iff l).1 hz).2.1, by rw [rgS_len]; exact ((isRg_iff l).1 hz).1.2⟩
    have HW : Hid (arV (rgS l) = z) := Lib.hid (by rw [← twA_yes hz]; exact HV.out)
    go_enter Tryz.func11, Tryz.ntmps11
    go_wp2_with fail
    refine (joinRing_yes a0 A c l _ HE.out HS.out hl hlc hc hz).mono ?_
    rintro e w1 ⟨A1, c1, L, hL, rfl, ho1, hb1⟩
    have hE1 : ErrAt a0 w1 := HE.out.all hb1
    unfold ErrAt at hE1
    have HB1 := Lib.hid hb1; have HO1 := Lib.hid ho1; have HL := hL
    clear hb1 ho1 hL
    go_wp2_with (go_at_call 46; refine (is_nil a0 _).mono ?_; rintro e w2 ⟨rfl, rfl⟩)
    have h10 : L.length ≤ 10 := by rw [HL.out]; exact HOK.out.2
    go_loopw [5, 18] (fun n i wr => ∃ j : Nat, j ≤ L.length ∧ n = .int .i64 (arV (L.take j)) ∧ i = .int .i64 j ∧ Hid (OwnE 4 encSegment wr w.heap.size 78 (.slice A1 L.length c1) L) ∧ Hid (Below w.heap.size w wr)) (fun _ i _ => L.length - (intOf i).toNat)
    case atStart => exact ⟨0, Nat.zero_le _, rfl, rfl, HO1, HB1⟩
    case round =>
      obtain ⟨j, hj, rfl, rfl, HO, HB⟩ := hrel
      clear HO1 HB1
      by_cases hlt : j < L.length
      · have hlt' : (j : Int) < (L.length : Int) := by omega
        obtain ⟨b, off, x, rfl, hbl, hx, -⟩ := (HO.out.sees elSegment).lt hlt
        obtain ⟨k0, k1, k2, k3⟩ := cells4 (HO.out.sees elSegment) hx
        have hx' : sOk x = true := HOK.out.1 x (by rw [← HL.out]; exact List.mem_of_getElem? hx)
        obtain ⟨⟨p0, p1⟩, q0, q1⟩ := arS_bd hx'
        obtain ⟨N, hN⟩ : ∃ N, arV (L.take j) = N := ⟨_, rfl⟩
        have hNb : -400000 ≤ N ∧ N ≤ 400000 := by rw [← hN]; exact arV_bd_take (by rw [HL.out]; exact HOK.out.1) h10 j
        have HT : Hid (N + (x.1 * x.2.2.2 - x.2.1 * x.2.2.1) = arV (L.take (j + 1))) := Lib.hid (by rw [← hN]; exact arV_take hx)
        rw [hN]
        clear hN hx hx'
        go_wp2
        go_roundw
        case rel => exact ⟨j + 1, by omega, by rw [← HT.out], by go_num, Lib.hid (HO.out.alloc _), Lib.hid (HB.out.alloc HB.out.size _)⟩
        case measure => simp [intOf]; omega
      · obtain rfl : j = L.length := by omega
        rw [List.take_length]
        go_wp2
        go_ret
        exact ⟨by rw [← HW.out, HL.out]; rfl, HB.out⟩
end Go.Proofs.YtbnjaaegbmhopaaGreatDoor
end
section
/- Lines: EqualLines and TurnLine, of package impl and of the model. -/
namespace Go.Proofs.YtbnjaaegbmhopaaGreatDoor
open Go.ChangeShapes Go.WideShapes Go.ChangeAt Go.RowKit
set_option linter.unusedVariables false

/-- Equal so far. -/
theorem eqPre_step {α : Type} {l m : List α} {j : Nat} (h : l.take j = m.take j) (hx : l[j]? = m[j]?) : l.take (j + 1) = m.take (j + 1) := by
  rw [List.take_add_one, List.take_add_one, h, hx]
theorem ne_of_get {α : Type} {l m : List α} {j : Nat} (h : l[j]? ≠ m[j]?) : l ≠ m := fun e => h (by rw [e])
theorem PtV_ne {a b c d : Int} (h : ¬ (a = c ∧ b = d)) : ((a, b) : Int × Int) ≠ (c, d) := fun e => h ⟨congrArg Prod.fst e, congrArg Prod.snd e⟩
def StRel (l : List (Int × Int)) (w : World) (v i : Value) (wr : World) : Prop :=
  ∃ (A : Option Addr) (c : Nat) (L : List (Int × Int)) (r : Nat), r ≤ l.length ∧ v = .slice A L.length c ∧ i = .int .i64 ((r : Int) - 1) ∧ Hid (L = l.reverse.take (l.length - r)) ∧ L.length = l.length - r ∧ OwnE 2 encPoint wr w.heap.size 33 (.slice A L.length c) L ∧ Below w.heap.size w wr
theorem st_step {l L L2 : List (Int × Int)} {m : Nat} {x : Int × Int} (hm : m + 1 ≤ l.length) (hL : L = l.reverse.take (l.length - (m + 1))) (h : L2 = L ++ [x]) (hx : l[m]? = some x) : L2 = l.reverse.take (l.length - m) := by
  have e : l.length - m = (l.length - (m + 1)) + 1 := by omega
  rw [h, hL, e, List.take_add_one, List.getElem?_reverse (by omega)]
  have e2 : l.length - 1 - (l.length - (m + 1)) = m := by omega
  rw [e2, hx]; rfl
end Go.Proofs.YtbnjaaegbmhopaaGreatDoor
end
section
/- Lines: slices.Reverse at a row of points of the call's own, and TurnLine of package impl. -/
namespace Go.Proofs.YtbnjaaegbmhopaaGreatDoor
open Go.ChangeShapes Go.WideShapes Go.ChangeAt Go.RowKit
set_option linter.unusedVariables false

/-- The first and the last k are turned round. -/
def RevAt {α : Type} (L : List α) (k : Nat) (L1 : List α) : Prop := L1.length = L.length ∧ ∀ m, m < L.length → L1[m]? = if m < k ∨ L.length ≤ m + k then L.reverse[m]? else L[m]?
theorem RevAt.zero {α : Type} (L : List α) : RevAt L 0 L := ⟨rfl, fun m hm => by rw [if_neg (by omega)]⟩
theorem RevAt.mid {α : Type} {L L1 : List α} {k : Nat} (h : RevAt L k L1) (hk : 2 * k < L.length) : L1[k]? = L[k]? ∧ L1[L.length - 1 - k]? = L[L.length - 1 - k]? :=
  ⟨by rw [h.2 k (by omega), if_neg (by omega)], by rw [h.2 _ (by omega), if_neg (by omega)]⟩
theorem RevAt.step {α : Type} {L L1 : List α} {k jn : Nat} {x y : α} (h : RevAt L k L1) (hk : k < jn) (hj : jn + k + 1 = L.length) (hx : L1[k]? = some x) (hy : L1[jn]? = some y) : RevAt L (k + 1) ((L1.set k y).set jn x) := by
  have ej : L.length - 1 - k = jn := by omega
  have h1 := h.mid (by omega)
  rw [ej] at h1
  refine ⟨by simp [h.1], fun m hm => ?_⟩
  rw [List.getElem?_set, List.getElem?_set]
  simp only [List.length_set]
  by_cases e1 : jn = m
  · subst e1
    rw [if_pos rfl, if_pos (by rw [h.1]; omega), if_pos (by omega), List.getElem?_reverse (by omega)]
    have : L.length - 1 - jn = k := by omega
    rw [this, ← h1.1, hx]
  · rw [if_neg e1]
    by_cases e2 : k = m
    · subst e2
      rw [if_pos rfl, if_pos (by rw [h.1]; omega), if_pos (by omega), List.getElem?_reverse (by omega), ej, ← h1.2, hy]
    · rw [if_neg e2, h.2 m hm]
      by_cases e3 : m < k ∨ L.length ≤ m + k
      · rw [if_pos e3, if_pos (by omega)]
      · rw [if_neg e3, if_neg (by omega)]
theorem RevAt.done {α : Type} {L L1 : List α} {k : Nat} (h : RevAt L k L1) (hk : L.length ≤ 2 * k + 1) : L1 = L.reverse := by
  apply List.ext_getElem?
  intro m
  by_cases hm : m < L.length
  · rw [h.2 m hm]
    by_cases e : m < k ∨ L.length ≤ m + k
    · rw [if_pos e]
    · rw [if_neg e, List.getElem?_reverse hm]
      have : L.length - 1 - m = m := by omega
      rw [this]
  · rw [List.getElem?_eq_none (by rw [h.1]; omega), List.getElem?_eq_none (by rw [List.length_reverse]; omega)]

def RvRel (g c : Nat) (L : List (Int × Int)) (w : World) (i j : Value) (wr : World) : Prop :=
  ∃ (k : Nat) (L1 : List (Int × Int)), 2 * k ≤ L.length ∧ i = .int .i64 (k : Int) ∧ j = .int .i64 ((L.length : Int) - 1 - k) ∧ Hid (RevAt L k L1) ∧ L1.length = L.length ∧ RowE 2 encPoint wr g 33 c L1 ∧ Below g w wr
set_option maxRecDepth 100000 in
theorem reverse_any (g c : Nat) (L : List (Int × Int)) (w : World) (h : RowE 2 encPoint w g 33 c L) (hl : L.length ≤ 1099511627776) :
    Calls Tryz.prog 75 #[.slice (some ⟨g, 0, none⟩) L.length c] w fun e w' => e = .returned (.tuple #[]) ∧ ∃ L1, Hid (L1 = L.reverse) ∧ L1.length = L.length ∧ RowE 2 encPoint w' g 33 c L1 ∧ Below g w w' := by
  have HR := Lib.hid h; clear h
  go_enter Tryz.func75, Tryz.ntmps75
  go_wp2
  go_loopw [2, 3] (fun i j wr => RvRel g c L w i j wr) (fun i _ _ => L.length - (intOf i).toNat)
  case atStart => exact ⟨0, L, by omega, rfl, by go_num, Lib.hid (RevAt.zero L), rfl, HR.out, Below.refl _ _⟩
  case round =>
    obtain ⟨k, L1, hk, rfl, rfl, hv, hn, hr, hb⟩ := hrel
    have HB := Lib.hid hb; clear hb
    by_cases hlt : 2 * k + 1 < L.length
    · obtain ⟨jn, hj⟩ : ∃ jn, jn + k + 1 = L.length := ⟨L.length - 1 - k, by omega⟩
      have e1 : (L.length : Int) - 1 - k = (jn : Int) := by omega
      rw [e1]
      have hkj : (k : Int) < (jn : Int) := by omega
      have hjl : (jn : Int) < (L.length : Int) := by omega
      have hkl : (k : Int) < (L.length : Int) := by omega
      obtain ⟨⟨x0, x1⟩, hx⟩ : ∃ x, L1[k]? = some x := ⟨_, List.getElem?_eq_getElem (by omega)⟩
      obtain ⟨⟨y0, y1⟩, hy⟩ : ∃ x, L1[jn]? = some x := ⟨_, List.getElem?_eq_getElem (by omega)⟩
      obtain ⟨k0, k1⟩ := rowCellsPoint hr hx
      obtain ⟨k2, k3⟩ := rowCellsPoint hr hy
      obtain ⟨f0, f1⟩ := rowFrozenPoint hr k
      obtain ⟨f2, f3⟩ := rowFrozenPoint hr jn
      have hrd : RowE 2 encPoint wr.drew g 33 c L1 := hr
      have hr1 := rowPoint_set hrd (j := k) (by omega) y0 y1
      have hy1 : (L1.set k (y0, y1))[jn]? = some (y0, y1) := by rw [List.getElem?_set, if_neg (by omega)]; exact hy
      obtain ⟨q2, q3⟩ := rowCellsPoint hr1 hy1
      have HV := Lib.hid hv; have HX := Lib.hid hx; have HY := Lib.hid hy
      have HR1 := Lib.hid hr1
      have HN := Lib.hid hn
      clear hv hx hy hr1 hrd hr hy1 hn
      go_wp2_with fail
      go_region_with (fail)
      all_goals
        go_wp2
        go_roundw
        case rel => exact ⟨k + 1, (L1.set k (y0, y1)).set jn (x0, x1), by omega, by go_num, by go_num, Lib.hid (HV.out.out.step (by omega) hj HX.out HY.out), by rw [List.length_set, List.length_set]; exact HN.out, rowPoint_set HR1.out (by have := HN.out; rw [List.length_set]; omega) x0 x1, ((((HB.out.setCell (p := ⟨g, k * 2, none⟩) (Nat.le_refl _) _).setCell (p := ⟨g, k * 2 + 1, none⟩) (Nat.le_refl _) _).setCell (p := ⟨g, jn * 2, none⟩) (Nat.le_refl _) _).setCell (p := ⟨g, jn * 2 + 1, none⟩) (Nat.le_refl _) _).drew⟩
        case measure => simp [intOf]; omega
    · have e1 : ¬ (k : Int) < (L.length : Int) - 1 - k := by omega
      go_wp2
      go_end0
      exact ⟨rfl, L1, Lib.hid (hv.out.done (by omega)), hn, hr, HB.out⟩
theorem reverse0_any (A : Option Addr) (c : Nat) (w : World) :
    Calls Tryz.prog 75 #[.slice A 0 c] w fun e w' => e = .returned (.tuple #[]) ∧ w = w' := by
  go_enter Tryz.func75, Tryz.ntmps75
  go_wp2
  go_loopw [2, 3] (fun i j wr => i = .int .i64 0 ∧ j = .int .i64 (-1) ∧ w = wr) (fun _ _ _ => 0)
  case atStart => exact ⟨rfl, rfl, rfl⟩
  case round =>
    obtain ⟨rfl, rfl, rfl⟩ := hrel
    go_wp2
    go_end0
    exact ⟨rfl, rfl⟩
set_option maxRecDepth 100000 in
theorem turnLine_any (A : Option Addr) (c : Nat) (l : List (Int × Int)) (w : World) (hs : SeesE 2 encPoint w w.heap.size A l) (hl : l.length ≤ 1099511627776) :
    Calls Tryz.prog 44 #[.slice A l.length c] w (GivesE 2 encPoint 33 l.reverse w) := by
  have HS := Lib.hid hs; clear hs
  go_enter Tryz.func44, Tryz.ntmps44
  go_wp2_with (at_builtin; refine appPoint _ rfl _ _ rfl w.heap.size _ [] rfl (OwnE.lit w w.heap.size 33 (Nat.le_refl _)) w.heap.size A l.length c l rfl rfl (HS.out.alloc (Nat.le_refl _) _) (by simp; omega) (by simp) ?_; intro A1 c1 L w1 hL h1 h2 ho hb)
  have hn : L.length = l.length := by simp at h1 h2; omega
  have HL : Hid (L = l) := Lib.hid (by rw [hL.out]; rfl)
  have HO := Lib.hid ho
  have HB := Lib.hid (((Below.refl w.heap.size w).alloc (Nat.le_refl _) (.cells #[] 33)).trans hb)
  clear h1 h2 ho hb hL
  by_cases h0 : L.length = 0
  · rw [h0]
    refine (reverse0_any A1 c1 w1).mono ?_
    rintro e w2 ⟨rfl, rfl⟩
    go_wp2
    go_ret
    have e0 : L = [] := List.length_eq_zero_iff.1 h0
    have ho := HO.out
    rw [e0] at ho
    exact ⟨A1, c1, [], Lib.hid (by rw [← HL.out, e0]; rfl), rfl, ho, HB.out⟩
  · obtain ⟨g, rfl, hBg, -, hr⟩ := HO.out.row (by omega)
    refine (reverse_any g c1 L w1 hr (by omega)).mono ?_
    rintro e w2 ⟨rfl, L1, hL1, hn1, hr1, hb1⟩
    have HR := Lib.hid hr1; have HB1 := Lib.hid hb1
    clear hr hr1 hb1
    go_wp2
    go_ret
    exact ⟨_, c1, L1, Lib.hid (by rw [hL1.out, HL.out]), by rw [hn1, hn]; rfl, HR.out.own elPoint hBg, HB.out.trans (HB1.out.mono hBg)⟩
end Go.Proofs.YtbnjaaegbmhopaaGreatDoor
end
section
/- TurnRing of package impl. -/
namespace Go.Proofs.YtbnjaaegbmhopaaGreatDoor
open Go.ChangeShapes Go.WideShapes Go.ChangeAt Go.RowKit
set_option linter.unusedVariables false

theorem len_one_more {α : Type} {L t : List α} {x : α} {n : Nat} (h : L = t.reverse) (h1 : t.length = n) (h2 : n ≤ 1099511627775) : [x].length + L.length ≤ 1099511627776 := by
  subst h; rw [List.length_reverse, h1]; simp; omega
set_option maxRecDepth 100000 in
set_option maxHeartbeats 1000000 in
theorem turnLine_at (n : Nat) (A : Option Addr) (c : Nat) (l : List (Int × Int)) (w : World) (e : l.length = n) (hs : SeesE 2 encPoint w w.heap.size A l) (hl : n ≤ 1099511627776) :
    Calls Tryz.prog 44 #[.slice A n c] w (GivesE 2 encPoint 33 l.reverse w) := by
  subst e; exact turnLine_any A c l w hs hl
set_option maxRecDepth 100000 in
set_option maxHeartbeats 1000000 in
theorem turnRing_any (A : Option Addr) (c : Nat) (l : List (Int × Int)) (w : World) (hs : SeesE 2 encPoint w w.heap.size A l) (hl : l.length ≤ 274877906944) (hlc : l.length ≤ c) (hc : (c : Int) ≤ 9223372036854775807) :
    Calls Tryz.prog 9 #[.slice A l.length c] w (GivesE 2 encPoint 33 (trn l) w) := by
  have HS := Lib.hid hs; clear hs
  go_enter Tryz.func9, Tryz.ntmps9
  match l with
  | [] =>
    go_wp2
    go_ret
    exact ⟨_, _, [], Lib.hid rfl, rfl, OwnE.lit _ _ _ (Nat.le_refl _), (Below.refl _ w).alloc (Nat.le_refl _) _⟩
  | (x, y) :: t =>
    have hx : ((x, y) :: t)[0]? = some (x, y) := rfl
    obtain ⟨b, off, rfl, hb, -⟩ := HS.out 0 _ hx
    obtain ⟨k0', k1'⟩ := cellsPoint HS.out hx
    have k0 : w.cell? ⟨b, off, none⟩ = some (.int .i64 x) := by simpa using k0'
    have k1 : w.cell? ⟨b, off + 1, none⟩ = some (.int .i64 y) := by simpa using k1'
    clear k0' k1'
    have HE : Hid (((x, y) :: t).length = t.length + 1) := Lib.hid rfl
    obtain ⟨n, hn⟩ : ∃ n, ((x, y) :: t).length = n := ⟨_, rfl⟩
    have hn1 : 0 < n := by rw [← hn]; simp
    have HN := Lib.hid hn
    rw [hn] at hl hlc ⊢
    clear hn
    have b0 : ¬ ((n : Int) = 0) := by omega
    have b1 : ¬ ((n : Int) < 1) := by omega
    have b2 : (1 : Int) ≤ (n : Int) := by omega
    have HO0 : Hid (OwnE 2 encPoint (w.alloc (.cells #[.int .i64 x, .int .i64 y] 33)).drew w.heap.size 33 (.slice (some ⟨w.heap.size, 0, none⟩) 1 1) [(x, y)]) := Lib.hid (World.ownsRow_lit (base := w.heap.size) (e := 33) (size := 2) w #[.int .i64 x, .int .i64 y] 1 (Nat.le_refl _) (by decide) rfl)
    have HR : Hid ([(x, y)] ++ t.reverse = trn ((x, y) :: t)) := Lib.hid rfl
    have HN1 : Hid (t.length = n - 1) := Lib.hid (by have := HN.out; rw [HE.out] at this; omega)
    have d0 : (w.alloc (.cells #[.int .i64 x, .int .i64 y] 33)).drew.cell? ⟨b, off, none⟩ = some (.int .i64 x) := (((Below.refl w.heap.size w).alloc (Nat.le_refl _) _).cell (p := ⟨b, off, none⟩) hb).trans k0
    have d1 : (w.alloc (.cells #[.int .i64 x, .int .i64 y] 33)).drew.cell? ⟨b, off + 1, none⟩ = some (.int .i64 y) := (((Below.refl w.heap.size w).alloc (Nat.le_refl _) _).cell (p := ⟨b, off + 1, none⟩) hb).trans k1
    have e0 : w.drew.cell? ⟨b, off, none⟩ = some (.int .i64 x) := k0
    have e1 : w.drew.cell? ⟨b, off + 1, none⟩ = some (.int .i64 y) := k1
    have hn9 : n - 1 ≤ 1099511627775 := by omega
    have D0 := Lib.hid d0; have D1 := Lib.hid d1; have E0 := Lib.hid e0; have E1 := Lib.hid e1
    clear d0 d1 e0 e1
    by_cases hc1 : c = 1
    · subst hc1
      obtain rfl : n = 1 := by omega
      have HZ1 : Hid (t.length = 0) := Lib.hid (by have := HN1.out; omega)
      clear hn9
      have hn9 : 0 ≤ 1099511627775 := by omega
      have HT0 : Hid (SeesE 2 encPoint w w.heap.size (some ⟨b, off, none⟩) t) := Lib.hid (show SeesE 2 encPoint w w.heap.size (some ⟨b, off, none⟩) t from by rw [show t = [] from List.length_eq_zero_iff.1 HZ1.out]; exact SeesE.nil)
      have HT1 : Hid (SeesE 2 encPoint w.drew w.drew.heap.size (some ⟨b, off, none⟩) t) := Lib.hid HT0.out.drew
      have HT2 : Hid (SeesE 2 encPoint (w.alloc (.cells #[.int .i64 x, .int .i64 y] 33)).drew (w.alloc (.cells #[.int .i64 x, .int .i64 y] 33)).drew.heap.size (some ⟨b, off, none⟩) t) := Lib.hid ((HT0.out.alloc (Nat.le_refl _) _).drew.mono (by show _ ≤ (w.alloc _).heap.size; simp))
      go_wp2
      go_region_held3 (fun w' => w'.cell? ⟨b, off, none⟩ = some (.int .i64 x) ∧ w'.cell? ⟨b, off + 1, none⟩ = some (.int .i64 y)) (first | with_reducible exact ⟨k0, k1⟩ | with_reducible exact ⟨E0.out, E1.out⟩ | with_reducible exact ⟨D0.out, D1.out⟩ | with_reducible exact hQ.out | with_reducible exact hQ2.out | with_reducible exact hQ3.out) (first
        | (go_at_call 44; refine (turnLine_at 0 _ _ t _ HZ1.out HT2.out (Nat.le_succ_of_le hn9)).mono ?_; rintro e w1 ⟨A1, c1, L, hL, rfl, ho1, hb1⟩; have HL := hL; have HO1 := Lib.hid ho1; have HB1 := Lib.hid hb1; have HO2 := Lib.hid (HO0.out.belowAll hb1); have HL63 : [(x, y)].length + L.length ≤ 1099511627776 := (len_one_more HL.out HZ1.out hn9); have HW1 : w.heap.size ≤ w1.heap.size := Nat.le_trans (by show _ ≤ (w.alloc _).heap.size; simp) hb1.size; have hQ := Lib.hid (And.intro ((hb1.cell (World.block_lt_of_cell? _ _ D0.out)).trans D0.out) ((hb1.cell (World.block_lt_of_cell? _ _ D1.out)).trans D1.out)))
        | (go_at_call 44; refine (turnLine_at 0 _ _ t _ HZ1.out HT1.out (Nat.le_succ_of_le hn9)).mono ?_; rintro e w1 ⟨A1, c1, L, hL, rfl, ho1, hb1⟩; have HL := hL; have HO1 := Lib.hid ho1; have HB3 := Lib.hid hb1; have HO4 : Hid (OwnE 2 encPoint (w1.alloc (.cells #[.int .i64 x, .int .i64 y] 33)) w.heap.size 33 (.slice (some ⟨w1.heap.size, 0, none⟩) 1 1) [(x, y)]) := Lib.hid (World.ownsRow_lit (base := w.heap.size) (e := 33) (size := 2) w1 #[.int .i64 x, .int .i64 y] 1 hb1.size (by decide) rfl); have HL63 : [(x, y)].length + L.length ≤ 1099511627776 := (len_one_more HL.out HZ1.out hn9); have HS1 := Lib.hid (((ho1.sees elPoint).alloc (Nat.le_refl _) (.cells #[.int .i64 x, .int .i64 y] 33))); have HW3 : w.heap.size ≤ (w1.alloc (.cells #[.int .i64 x, .int .i64 y] 33)).heap.size := Nat.le_trans hb1.size (by simp); have hQ := Lib.hid (And.intro ((hb1.cell (World.block_lt_of_cell? _ _ E0.out)).trans E0.out) ((hb1.cell (World.block_lt_of_cell? _ _ E1.out)).trans E1.out)); have hQ2 := Lib.hid (And.intro ((((Below.refl w1.heap.size w1).alloc (Nat.le_refl _) (.cells #[.int .i64 x, .int .i64 y] 33)).cell (World.block_lt_of_cell? _ _ hQ.out.1)).trans hQ.out.1) ((((Below.refl w1.heap.size w1).alloc (Nat.le_refl _) (.cells #[.int .i64 x, .int .i64 y] 33)).cell (World.block_lt_of_cell? _ _ hQ.out.2)).trans hQ.out.2)))
        | (refine stepPt w1 _ _ (by rfl) w.heap.size (.slice (some ⟨w.heap.size, 0, none⟩) 1 1) [(x, y)] (by rfl) HO2.out w1.heap.size A1 L.length c1 L (by rfl) (by rfl) (HO1.out.sees elPoint) HL63 HW1 ?_; intro A3 c3 L3 w3 hL3 h2 h3 ho3 hb3; have HL3 := hL3; have HO3 := Lib.hid ho3; have HBB := Lib.hid ((((Below.refl _ w).alloc (Nat.le_refl _) (.cells #[.int .i64 x, .int .i64 y] 33)).drew.trans (HB1.out.mono (by show _ ≤ (w.alloc _).heap.size; simp))).trans hb3); have hQ3 := Lib.hid (And.intro ((hb3.cell hb).trans hQ.out.1) ((hb3.cell hb).trans hQ.out.2)))
        | (refine stepPt (w1.alloc (.cells #[.int .i64 x, .int .i64 y] 33)) _ _ (by rfl) w.heap.size (.slice (some ⟨w1.heap.size, 0, none⟩) 1 1) [(x, y)] (by rfl) HO4.out w1.heap.size A1 L.length c1 L (by rfl) (by rfl) HS1.out HL63 HW3 ?_; intro A3 c3 L3 w3 hL3 h2 h3 ho3 hb3; have HL3 := hL3; have HO3 := Lib.hid ho3; have HBB := Lib.hid ((((Below.refl _ w).drew.trans HB3.out).alloc HB3.out.size (.cells #[.int .i64 x, .int .i64 y] 33)).trans hb3); have hQ3 := Lib.hid (And.intro ((hb3.cell hb).trans hQ2.out.1) ((hb3.cell hb).trans hQ2.out.2))) | fail)
      all_goals
        go_wp2
        go_ret
        exact ⟨A3, c3, L3, Lib.hid (by rw [HL3.out, HL.out]; exact HR.out), rfl, HO3.out, HBB.out⟩
    · have hc1' : (c = 1) = False := by simp [hc1]
      have HT0 : Hid (SeesE 2 encPoint w w.heap.size (some ⟨b, off + 2, none⟩) t) := Lib.hid (HS.out.suf 1 (some ⟨b, off + 2, none⟩) (fun h1 => by simp [add_none]))
      have HT1 : Hid (SeesE 2 encPoint w.drew w.drew.heap.size (some ⟨b, off + 2, none⟩) t) := Lib.hid HT0.out.drew
      have HT2 : Hid (SeesE 2 encPoint (w.alloc (.cells #[.int .i64 x, .int .i64 y] 33)).drew (w.alloc (.cells #[.int .i64 x, .int .i64 y] 33)).drew.heap.size (some ⟨b, off + 2, none⟩) t) := Lib.hid ((HT0.out.alloc (Nat.le_refl _) _).drew.mono (by show _ ≤ (w.alloc _).heap.size; simp))
      go_wp2
      go_region_held3 (fun w' => w'.cell? ⟨b, off, none⟩ = some (.int .i64 x) ∧ w'.cell? ⟨b, off + 1, none⟩ = some (.int .i64 y)) (first | with_reducible exact ⟨k0, k1⟩ | with_reducible exact ⟨E0.out, E1.out⟩ | with_reducible exact ⟨D0.out, D1.out⟩ | with_reducible exact hQ.out | with_reducible exact hQ2.out | with_reducible exact hQ3.out) (first
        | (go_at_call 44; refine (turnLine_at (n - 1) _ _ t _ HN1.out HT2.out (Nat.le_succ_of_le hn9)).mono ?_; rintro e w1 ⟨A1, c1, L, hL, rfl, ho1, hb1⟩; have HL := hL; have HO1 := Lib.hid ho1; have HB1 := Lib.hid hb1; have HO2 := Lib.hid (HO0.out.belowAll hb1); have HL63 : [(x, y)].length + L.length ≤ 1099511627776 := (len_one_more HL.out HN1.out hn9); have HW1 : w.heap.size ≤ w1.heap.size := Nat.le_trans (by show _ ≤ (w.alloc _).heap.size; simp) hb1.size; have hQ := Lib.hid (And.intro ((hb1.cell (World.block_lt_of_cell? _ _ D0.out)).trans D0.out) ((hb1.cell (World.block_lt_of_cell? _ _ D1.out)).trans D1.out)))
        | (go_at_call 44; refine (turnLine_at (n - 1) _ _ t _ HN1.out HT1.out (Nat.le_succ_of_le hn9)).mono ?_; rintro e w1 ⟨A1, c1, L, hL, rfl, ho1, hb1⟩; have HL := hL; have HO1 := Lib.hid ho1; have HB3 := Lib.hid hb1; have HO4 : Hid (OwnE 2 encPoint (w1.alloc (.cells #[.int .i64 x, .int .i64 y] 33)) w.heap.size 33 (.slice (some ⟨w1.heap.size, 0, none⟩) 1 1) [(x, y)]) := Lib.hid (World.ownsRow_lit (base := w.heap.size) (e := 33) (size := 2) w1 #[.int .i64 x, .int .i64 y] 1 hb1.size (by decide) rfl); have HL63 : [(x, y)].length + L.length ≤ 1099511627776 := (len_one_more HL.out HN1.out hn9); have HS1 := Lib.hid (((ho1.sees elPoint).alloc (Nat.le_refl _) (.cells #[.int .i64 x, .int .i64 y] 33))); have HW3 : w.heap.size ≤ (w1.alloc (.cells #[.int .i64 x, .int .i64 y] 33)).heap.size := Nat.le_trans hb1.size (by simp); have hQ := Lib.hid (And.intro ((hb1.cell (World.block_lt_of_cell? _ _ E0.out)).trans E0.out) ((hb1.cell (World.block_lt_of_cell? _ _ E1.out)).trans E1.out)); have hQ2 := Lib.hid (And.intro ((((Below.refl w1.heap.size w1).alloc (Nat.le_refl _) (.cells #[.int .i64 x, .int .i64 y] 33)).cell (World.block_lt_of_cell? _ _ hQ.out.1)).trans hQ.out.1) ((((Below.refl w1.heap.size w1).alloc (Nat.le_refl _) (.cells #[.int .i64 x, .int .i64 y] 33)).cell (World.block_lt_of_cell? _ _ hQ.out.2)).trans hQ.out.2)))
        | (refine stepPt w1 _ _ (by rfl) w.heap.size (.slice (some ⟨w.heap.size, 0, none⟩) 1 1) [(x, y)] (by rfl) HO2.out w1.heap.size A1 L.length c1 L (by rfl) (by rfl) (HO1.out.sees elPoint) HL63 HW1 ?_; intro A3 c3 L3 w3 hL3 h2 h3 ho3 hb3; have HL3 := hL3; have HO3 := Lib.hid ho3; have HBB := Lib.hid ((((Below.refl _ w).alloc (Nat.le_refl _) (.cells #[.int .i64 x, .int .i64 y] 33)).drew.trans (HB1.out.mono (by show _ ≤ (w.alloc _).heap.size; simp))).trans hb3); have hQ3 := Lib.hid (And.intro ((hb3.cell hb).trans hQ.out.1) ((hb3.cell hb).trans hQ.out.2)))
        | (refine stepPt (w1.alloc (.cells #[.int .i64 x, .int .i64 y] 33)) _ _ (by rfl) w.heap.size (.slice (some ⟨w1.heap.size, 0, none⟩) 1 1) [(x, y)] (by rfl) HO4.out w1.heap.size A1 L.length c1 L (by rfl) (by rfl) HS1.out HL63 HW3 ?_; intro A3 c3 L3 w3 hL3 h2 h3 ho3 hb3; have HL3 := hL3; have HO3 := Lib.hid ho3; have HBB := Lib.hid ((((Below.refl _ w).drew.trans HB3.out).alloc HB3.out.size (.cells #[.int .i64 x, .int .i64 y] 33)).trans hb3); have hQ3 := Lib.hid (And.intro ((hb3.cell hb).trans hQ2.out.1) ((hb3.cell hb).trans hQ2.out.2))) | fail)
      all_goals
        go_wp2
        go_ret
        exact ⟨A3, c3, L3, Lib.hid (by rw [HL3.out, HL.out]; exact HR.out), rfl, HO3.out, HBB.out⟩
end Go.Proofs.YtbnjaaegbmhopaaGreatDoor
end
section
/- sortByHeight of package impl: the segments, none of which goes down, by their lower ends. -/
namespace Go.Proofs.YtbnjaaegbmhopaaGreatDoor
open Go.Shelf Go.ChangeShapes Go.WideShapes Go.ChangeAt Go.RowKit
set_option linter.unusedVariables false

/-- Not going down. -/
def rsS (s : Int × Int × Int × Int) : Int × Int × Int × Int := if s.2.2.2 < s.2.1 then trS s else s
set_option maxRecDepth 100000 in
set_option maxHeartbeats 1000000 in
theorem rise_is (s : Int × Int × Int × Int) (w : World) : Calls Tryz.prog 85 #[sV s] w fun e w' => e = .returned (sV (rsS s)) ∧ Below w.heap.size w w' := by
  obtain ⟨a, b, c, d⟩ := s
  go_enter Tryz.func85, Tryz.ntmps85
  by_cases h : d < b
  · have hr : rsS (a, b, c, d) = (c, d, a, b) := if_pos h
    rw [hr]
    go_wp2_with fail
    refine (turn_any a b c d _).mono ?_
    rintro e w9 ⟨rfl, hb9⟩
    have HB := Lib.hid ((Vars.of2 w (SegC a b c d) (SegC 0 0 0 0) 78 78).next hb9)
    obtain ⟨j0, j1, j2, j3⟩ := HB.out.c41
    obtain ⟨f0, f1, f2, f3⟩ : _ ∧ _ ∧ _ ∧ _ := ⟨HB.out.frozen (w.heap.size + 1) 1 0 rfl rfl, HB.out.frozen (w.heap.size + 1) 1 1 rfl rfl, HB.out.frozen (w.heap.size + 1) 1 2 rfl rfl, HB.out.frozen (w.heap.size + 1) 1 3 rfl rfl⟩
    clear hb9
    go_wp2
    refine bodyPost_ret (v := SegV c d a b) (by simp [results, Tryz.results85, go_sem, j0, j1, j2, j3]) rfl ⟨rfl, ?_⟩
    exact HB.out.set40 (b := w.heap.size + 1) (by omega) _ _ _ _
  · have hr : rsS (a, b, c, d) = (a, b, c, d) := if_neg h
    rw [hr]
    go_wp2
    refine bodyPost_ret (v := SegV a b c d) (by simp [results, Tryz.results85, go_sem]) rfl ⟨rfl, ?_⟩
    exact (Vars.of2 w (SegC a b c d) (SegC a b c d) 78 78).1
/-! ### The sort -/
def cfH (x y : Int × Int × Int × Int) : Int := cmpV x.2.1 y.2.1
theorem ltH (x y : Int × Int × Int × Int) : ltOf cfH x y = decide (x.2.1 < y.2.1) := by
  unfold ltOf cfH
  rcases cmp_bd x.2.1 y.2.1 with ⟨h, h1⟩ | ⟨h, h1⟩ | ⟨h, h1⟩ <;> rw [h] <;> simp <;> omega
theorem swoH : Sort.SWO (ltOf cfH) where
  irrefl x := by rw [ltH]; simp
  trans x y z h1 h2 := by rw [ltH] at *; simp at *; omega
  ntrans x y z h1 h2 := by rw [ltH] at *; simp at *; omega
set_option maxRecDepth 100000 in
theorem closureH (x y : Int × Int × Int × Int) (W : World) : Calls Tryz.prog 87 #[.agg (encSegment x).toArray, .agg (encSegment y).toArray] W fun e w' => e = .returned (.int .i64 (cfH x y)) ∧ ∃ q os', w' = Sort.grow (W.drewN q) os' := by
  obtain ⟨a, b, c, d⟩ := x
  obtain ⟨a', b', c', d'⟩ := y
  obtain ⟨r, hr⟩ : ∃ r, cmpV b b' = r := ⟨_, rfl⟩
  have hc : cfH (a, b, c, d) (a', b', c', d') = r := hr
  have HC := fun W' => compare_any b b' W'
  rw [hr] at HC
  rw [hc]
  clear hr hc
  show Calls Tryz.prog 87 #[SegV a b c d, SegV a' b' c' d'] W _
  go_enter Tryz.func87, Tryz.ntmps87
  go_wp2_with (go_at_call 88; refine (HC _).mono ?_; rintro e w' ⟨rfl, rfl⟩)
  go_ret
  exact ⟨rfl, 0, _, by rw [Sort.alloc_eq_grow, Sort.alloc_eq_grow, Sort.grow_grow]; rfl⟩
theorem cmpLaysH (blk off size : Nat) (w : World) : CmpLays Tryz.prog 87 #[] encSegment 4 cfH blk off size w := fun _ _ _ _ x y => closureH x y _
theorem holdsK_row {w : World} {g c : Nat} {e : TypeId} {L : List (Int × Int × Int × Int)} (h : RowE 4 encSegment w g e c L) : Sort.HoldsK encSegment 4 w g 0 L.toArray := fun j hj => by
  rw [Sort.size_flatK] at hj
  have hj' : j < L.length * 4 := by simpa using hj
  have hq : j / 4 < L.length := by omega
  refine ⟨?_, by rw [Nat.zero_add]; exact h.frozen j⟩
  rw [Sort.get_flatK _ _ _ _ hj]
  have hx : L[j / 4]? = some L.toArray[j / 4]! := by
    rw [getElem!_pos _ _ (by simpa using hq)]; simp [hq]
  obtain ⟨v, hv⟩ : ∃ v, (encSegment L.toArray[j / 4]!)[j % 4]? = some v := ⟨_, List.getElem?_eq_getElem (by show j % 4 < 4; omega)⟩
  have := h.cell elSegment hx hv
  rw [show j / 4 * 4 + j % 4 = 0 + j by omega] at this
  rw [this, List.getElem!_eq_getElem?_getD, hv]; rfl
theorem sees_holdsK {w : World} {g : Nat} {d : Array (Int × Int × Int × Int)} (h : Sort.HoldsK encSegment 4 w g 0 d) (hg : g < w.heap.size) : SeesE 4 encSegment w w.heap.size (some ⟨g, 0, none⟩) d.toList := fun j x hx => by
  have hj : j < d.size := by have := (List.getElem?_eq_some_iff.1 hx).1; simpa using this
  refine ⟨g, 0, rfl, hg, fun k v hv => ?_⟩
  have hk : k < 4 := by have := (List.getElem?_eq_some_iff.1 hv).1; exact this
  have := (h.cell hj hk).1
  rw [this]
  have hx' : d[j]! = x := by rw [getElem!_pos d j hj]; simpa [hj] using hx
  rw [hx', List.getElem!_eq_getElem?_getD, hv]; rfl
theorem grownBy_sortedK {w : World} {g n : Nat} {os : Array Obj} (d : Array (Int × Int × Int × Int)) : w.grownBy (sortWorldK encSegment 4 w g 0 n d os) (some g) := by
  refine ⟨rfl, rfl, rfl, by simp [sortWorldK, Sort.putRowK, Sort.grow, Sort.putRow, Sort.mapBlock, Sort.ahead], fun k hk hne => ?_⟩
  have : g ≠ k := fun e => hne (by rw [e])
  unfold sortWorldK
  rw [Sort.heap_grow_old _ _ (by simpa [Sort.putRowK, Sort.putRow, Sort.mapBlock, Sort.ahead] using hk)]
  simp [Sort.putRowK, Sort.putRow, Sort.mapBlock, Sort.ahead, Array.getElem?_modify, this]
/-- By their lower ends. -/
def LowFirst (L : List (Int × Int × Int × Int)) : Prop := ∀ (i j : Nat) (x y : Int × Int × Int × Int), i < j → L[i]? = some x → L[j]? = some y → x.2.1 ≤ y.2.1
theorem low_sorted {d : Array (Int × Int × Int × Int)} (h : Sort.SortedIn (ltOf cfH) 0 d.size d) : LowFirst d.toList := fun i j x y hij hx hy => by
  have hj : j < d.size := by have := (List.getElem?_eq_some_iff.1 hy).1; simpa using this
  have hi : i < d.size := by omega
  have := h i j (Nat.zero_le _) hij hj
  rw [ltH, getElem!_pos d j hj, getElem!_pos d i hi] at this
  have e1 : d[i] = x := by simpa [hi] using hx
  have e2 : d[j] = y := by simpa [hj] using hy
  rw [e1, e2] at this
  simpa using this
set_option maxRecDepth 100000 in
theorem sortFunc_any (g c : Nat) (L : List (Int × Int × Int × Int)) (w : World) (h : RowE 4 encSegment w g 78 c L) (hl : L.length ≤ 1099511627776) :
    Calls Tryz.prog 86 #[.slice (some ⟨g, 0, none⟩) L.length c, .func (.func 87) #[] #[]] w fun e w' => e = .returned (.tuple #[]) ∧ ∃ L', Hid (L'.Perm L) ∧ LowFirst L' ∧ L'.length = L.length ∧ SeesE 4 encSegment w' w'.heap.size (some ⟨g, 0, none⟩) L' ∧ Below g w w' := by
  have eg : ∀ args w, (callFunc 87 args).run Tryz.prog w = .ok (.enter 87 args) w := enters_of Tryz.func87 (by kernel_rfl) rfl
  have hcon := AnyQ.slices_SortFunc Tryz.sortSeg 4 Tryz.isAgg78 Tryz.sizeOf78 encSegment (fun _ => rfl) (fun x v hv => (elSegment.2 x).2 v hv) cfH swoH 87 #[] g 0 c L.toArray w eg (cmpLaysH g 0 _ w) (holdsK_row h) h.lt (by simp; omega)
  rw [show L.toArray.size = L.length from by simp] at hcon
  refine Calls.mono hcon ?_
  rintro e w' ⟨he, d', n, os, hp, hs, rfl⟩
  have hd : d'.size = L.length := by rw [hp.1]; simp
  have hH := holdsK_sortWorldK encSegment 4 w g 0 n L.toArray d' os h.lt (holdsK_row h) hp.1
  refine ⟨he, d'.toList, Lib.hid ?_, low_sorted (by rw [hd]; exact hs), by simpa using hd, sees_holdsK hH (lt_sortWorldK _ _ _ _ _ _ _ _ h.lt), (Below.refl g w).grown (grownBy_sortedK d') (Nat.le_of_lt h.lt) (fun k hk => by cases hk; exact Nat.le_refl _)⟩
  have h2 := hp.2.2
  rw [show d'.extract 0 L.length = d' by rw [← hd]; simp] at h2
  simpa using h2
end Go.Proofs.YtbnjaaegbmhopaaGreatDoor
namespace Go.Proofs.YtbnjaaegbmhopaaGreatDoor
open Go.Shelf Go.ChangeShapes Go.WideShapes Go.ChangeAt Go.RowKit
set_option linter.unusedVariables false

theorem take_map_succ {L E E' : List (Int × Int × Int × Int)} {j : Nat} {x : Int × Int × Int × Int} (hx : L[j]? = some x) (h : E = (L.take j).map rsS) (h' : E' = E ++ [rsS x]) : E' = (L.take (j + 1)).map rsS := by
  rw [h', h, List.take_add_one, hx, List.map_append]; rfl
set_option maxRecDepth 100000 in
set_option maxHeartbeats 1000000 in
theorem sortByHeight_any (A : Option Addr) (c : Nat) (L : List (Int × Int × Int × Int)) (w : World) (hs : SeesE 4 encSegment w w.heap.size A L) (h0 : 0 < L.length) (hl : L.length ≤ 1000) :
    Calls Tryz.prog 51 #[.slice A L.length c] w fun e w' => ∃ A' c' L', Hid (L'.Perm (L.map rsS)) ∧ LowFirst L' ∧ e = .returned (.slice A' L'.length c') ∧ SeesE 4 encSegment w' w'.heap.size A' L' ∧ Below w.heap.size w w' := by
  have HS := Lib.hid hs; clear hs
  go_enter Tryz.func51, Tryz.ntmps51
  go_wp2
  go_loopw [3, 9] (fun v i wr => ∃ (j : Nat) (A2 : Option Addr) (c2 : Nat) (E : List (Int × Int × Int × Int)), j ≤ L.length ∧ i = .int .i64 j ∧ Hid (E = (L.take j).map rsS) ∧ v = .slice A2 E.length c2 ∧ Hid (OwnE 4 encSegment wr w.heap.size 78 v E) ∧ Hid (Below w.heap.size w wr)) (fun _ i _ => L.length - (intOf i).toNat)
  case atStart => exact ⟨0, _, _, [], Nat.zero_le _, rfl, Lib.hid rfl, rfl, Lib.hid (OwnE.lit _ _ _ (Nat.le_refl _)), Lib.hid ((Below.refl _ w).alloc (Nat.le_refl _) _)⟩
  case round =>
    obtain ⟨j, A2, c2, E, hj, rfl, hE, rfl, HO, HB⟩ := hrel
    by_cases hlt : j < L.length
    · have hlt' : (j : Int) < (L.length : Int) := by omega
      obtain ⟨b, off, x, rfl, hbl, hx, -⟩ := (HS.out.below HB.out).lt hlt
      obtain ⟨k0, k1, k2, k3⟩ := cells4 (HS.out.below HB.out) hx
      have HX := Lib.hid hx
      clear hx
      have hEl : E.length = j := by rw [hE.out]; simp; omega
      have HE := hE
      obtain ⟨y, hy⟩ : ∃ y, rsS x = y := ⟨_, rfl⟩
      have HR : ∀ W, Calls Tryz.prog 85 #[sV x] W fun e w' => e = .returned (sV y) ∧ Below W.heap.size W w' := fun W => by rw [← hy]; exact rise_is x W
      have HY := Lib.hid hy
      have hE1 : E.length + [y].length ≤ 1099511627776 := by simp; omega
      clear hE hy hEl
      go_wp2_with (first
        | (go_at_call 85; refine (HR _).mono ?_; rintro e w9 ⟨rfl, hb9⟩; have HB9 := Lib.hid ((HB.out.alloc HB.out.size (.cells (sC x) 78)).trans (hb9.mono (by simp; exact Nat.le_trans HB.out.size (by omega)))); have HO9 := Lib.hid ((HO.out.alloc (.cells (sC x) 78)).belowAll hb9))
        | (at_builtin; refine appSegment _ rfl _ _ rfl w.heap.size _ E rfl (HO9.out.alloc _) (w9.heap.size + 1) (some ⟨w9.heap.size, 0, none⟩) 1 1 [y] rfl rfl (seesE_new elSegment w9 y (sC y) 78 _ (Nat.lt_succ_self _) rfl) hE1 (Nat.le_trans HB9.out.size (by simp)) ?_; intro A3 c3 L3 w3 hL3 h2 h3 ho3 hb3))
      go_roundw
      case rel => exact ⟨j + 1, A3, c3, L3, by omega, by go_num, Lib.hid (take_map_succ HX.out HE.out (by rw [hL3.out, HY.out])), rfl, Lib.hid ho3, Lib.hid ((HB9.out.alloc HB9.out.size _).trans hb3)⟩
      case measure => simp [intOf]; omega
    · obtain rfl : j = L.length := by omega
      have HE : Hid (E = L.map rsS) := Lib.hid (by rw [hE.out, List.take_length])
      have hEl : 0 < E.length := by rw [HE.out, List.length_map]; exact h0
      have hEl2 : E.length ≤ 1000 := by rw [HE.out, List.length_map]; exact hl
      obtain ⟨g, rfl, hBg, -, hr⟩ := HO.out.row hEl
      have HR := Lib.hid hr; clear hr
      go_wp2_with (go_at_call 86; refine (sortFunc_any g c2 E _ HR.out (by omega)).mono ?_; rintro e w2 ⟨rfl, L', hp, hlow, hn, hs2, hb2⟩)
      go_ret
      exact ⟨_, c2, L', Lib.hid (by rw [← HE.out]; exact hp.out), hlow, by rw [hn]; rfl, hs2, HB.out.trans (hb2.mono hBg)⟩
/-- Does the edge cross the level ray from p to the right? -/
def crR (p : Int × Int) (s : Int × Int × Int × Int) : Bool := inB p.2 s.2.1 (s.2.2.2 - 1) && decide (0 < sideV s.1 s.2.1 s.2.2.1 s.2.2.2 p.1 p.2)
set_option maxRecDepth 100000 in
set_option maxHeartbeats 1000000 in
theorem crosses_is (a b c d x y : Int) (w : World) (h : isS a b c d = true) (z : Bool) (hz : crR (x, y) (a, b, c, d) = z) :
    Calls Tryz.prog 53 #[SegV a b c d, PtV x y] w fun e w' => e = .returned (.bool z) ∧ Below w.heap.size w w' := by
  obtain ⟨h1, h2, -⟩ := isS_at h
  have hd : 0 ≤ d ∧ d ≤ 200 := by omega
  have HB := Lib.hid (Vars.of2 w (SegC a b c d) #[.int .i64 x, .int .i64 y] 78 33)
  have hw1 : wrap64 (d - 1) = d - 1 := by unfold wrap64; omega
  have hw2 : IntKind.i64.wrap (d - 1) = d - 1 := IntWalk.i64_in _ (by omega)
  have K := HB.out.c42p
  clear h1 h2 h
  go_enter Tryz.func53, Tryz.ntmps53
  cases hin : inB y b (d - 1)
  · obtain rfl : z = false := by rw [← hz]; show (inB y b (d - 1) && _) = false; rw [hin]; rfl
    go_wp2_with (go_at_call 48; refine (in_is _ _ _ _ _ hin).mono ?_; rintro e w1 ⟨rfl, rfl⟩)
    go_ret
    exact ⟨rfl, HB.out.1⟩
  · obtain ⟨v, hv⟩ : ∃ v, sideV a b c d x y = v := ⟨_, rfl⟩
    have hz' : decide (0 < v) = z := by rw [← hz, ← hv]; show _ = (inB y b (d - 1) && _); rw [hin, Bool.true_and]
    have HC : ∀ W, Calls Tryz.prog 92 #[PtV a b, PtV c d, PtV x y] W fun e w' => e = .returned (.int .i64 v) ∧ Below W.heap.size W w' := fun W => by rw [← hv]; exact sideOf_any a b c d x y W
    clear hz hv
    by_cases h0 : 0 < v
    · obtain rfl : z = true := by rw [← hz']; simp [h0]
      clear hz'
      go_wp2_with (first
        | (go_at_call 48; refine (in_is _ _ _ _ _ hin).mono ?_; rintro e w1 ⟨rfl, rfl⟩)
        | (go_at_call 92; refine (HC _).mono ?_; rintro e w1 ⟨rfl, hb1⟩))
      go_ret
      exact ⟨by first | rfl | simp; try omega, (HB.out.next hb1).1⟩
    · obtain rfl : z = false := by rw [← hz']; simp [h0]
      clear hz'
      go_wp2_with (first
        | (go_at_call 48; refine (in_is _ _ _ _ _ hin).mono ?_; rintro e w1 ⟨rfl, rfl⟩)
        | (go_at_call 92; refine (HC _).mono ?_; rintro e w1 ⟨rfl, hb1⟩))
      go_ret
      exact ⟨by first | rfl | simp; try omega, (HB.out.next hb1).1⟩
end Go.Proofs.YtbnjaaegbmhopaaGreatDoor
end
section
/- Inside a ring, by its edges in the order of their lower ends; IsInside of package impl. -/
namespace Go.Proofs.YtbnjaaegbmhopaaGreatDoor
open Go.RowKit
set_option linter.unusedVariables false

theorem crR_rs {p : Int × Int} {s : Int × Int × Int × Int} (hs : sOk s = true) (hp : isP p.1 p.2 = true) : crR p (rsS s) = crC p s := by
  obtain ⟨a, b, c, d⟩ := s
  obtain ⟨x, y⟩ := p
  have hs' : isS a b c d = true := hs
  obtain ⟨h1, h2, -⟩ := isS_at hs'
  have h3 := isP_bd hp
  have hc := crs_turn a b c d x y
  rw [Bool.eq_iff_iff]
  by_cases hd : d < b
  · have hr : rsS (a, b, c, d) = (c, d, a, b) := if_pos hd
    rw [hr]
    have hg := side_sg (isP3_of h2 h1 h3)
    rw [hc] at hg
    show (inB y d (b - 1) && decide (0 < sideV c d a b x y)) = true ↔ ((decide (b > y) != decide (d > y)) && ((decide (d > b) && decide (crs a b c d x y > 0)) || (decide (d < b) && decide (crs a b c d x y < 0)))) = true
    have e1 : decide (d > b) = false := decide_eq_false (by omega)
    have e2 : decide (d < b) = true := decide_eq_true hd
    have e3 : (decide (b > y) != decide (d > y)) = inB y d (b - 1) := by
      rw [Bool.eq_iff_iff]; simp only [inB, bne_iff_ne, ne_eq, decide_eq_decide, decide_eq_true_eq]; omega
    have e4 : decide (0 < sideV c d a b x y) = decide (crs a b c d x y < 0) := by
      rw [hg, decide_eq_decide]
      rcases sg_cases (-crs a b c d x y) with k | k | k <;> rw [k.1] <;> omega
    rw [e1, e2, e3, e4, Bool.false_and, Bool.false_or, Bool.true_and]
  · have hr : rsS (a, b, c, d) = (a, b, c, d) := if_neg hd
    rw [hr]
    have hg := side_sg (isP3_of h1 h2 h3)
    show (inB y b (d - 1) && decide (0 < sideV a b c d x y)) = true ↔ ((decide (b > y) != decide (d > y)) && ((decide (d > b) && decide (crs a b c d x y > 0)) || (decide (d < b) && decide (crs a b c d x y < 0)))) = true
    have e2 : decide (d < b) = false := decide_eq_false hd
    have e3 : (decide (b > y) != decide (d > y)) = inB y b (d - 1) := by
      rw [Bool.eq_iff_iff]; simp only [inB, bne_iff_ne, ne_eq, decide_eq_decide, decide_eq_true_eq]; omega
    have e4 : decide (0 < sideV a b c d x y) = decide (crs a b c d x y > 0) := by
      rw [hg, decide_eq_decide]
      rcases sg_cases (crs a b c d x y) with k | k | k <;> rw [k.1] <;> omega
    rw [e2, e3, e4, Bool.false_and, Bool.or_false]
    by_cases hbd : b = d
    · have e5 : inB y b (d - 1) = false := by unfold inB; exact decide_eq_false (by omega)
      rw [e5]; simp
    · have e6 : decide (d > b) = true := decide_eq_true (by omega)
      rw [e6, Bool.true_and]
theorem onS_rs (p : Int × Int) (s : Int × Int × Int × Int) : onS p (rsS s) = onS p s := by
  unfold rsS; split
  · exact onS_tr p s
  · rfl
theorem sOk_rs (s : Int × Int × Int × Int) : sOk (rsS s) = sOk s := by
  unfold rsS; split
  · exact sOk_tr s
  · rfl
theorem rs_up (s : Int × Int × Int × Int) : (rsS s).2.1 ≤ (rsS s).2.2.2 := by
  unfold rsS; split
  · show s.2.2.2 ≤ s.2.1; omega
  · omega
theorem crR_out {p : Int × Int} {s : Int × Int × Int × Int} (hp : isP p.1 p.2 = false) : crR p s = false := by
  have : sideV s.1 s.2.1 s.2.2.1 s.2.2.2 p.1 p.2 = 0 := by
    unfold sideV
    rw [if_neg]
    simp [isP3, hp]
  unfold crR
  rw [this]; simp
theorem onS_out {p : Int × Int} {s : Int × Int × Int × Int} (hp : isP p.1 p.2 = false) : onS p s = false := by
  cases h : onS p s
  · rfl
  · obtain ⟨h1, h2⟩ := onV_iff.1 h
    have := on_bd h1 h2
    rw [isP_of this.1 this.2.1 this.2.2.1 this.2.2.2] at hp
    cases hp
/-- By the edges. -/
def insV (p : Int × Int) (L : List (Int × Int × Int × Int)) : Bool := L.any (onS p) || decide (L.countP (crR p) % 2 = 1)
theorem insV_perm {p : Int × Int} {L L' : List (Int × Int × Int × Int)} (h : L'.Perm L) : insV p L' = insV p L := by
  unfold insV
  rw [h.countP_eq, h.any_eq]
theorem insV_rs {l : List (Int × Int)} (hl : isRg l = true) (p : Int × Int) : insV p ((rgS l).map rsS) = inV l p := by
  have hok := ((isRg_iff l).1 hl).2.1
  unfold inV insV
  rw [hl, Bool.true_and, List.any_map, List.countP_map]
  cases hp : isP p.1 p.2
  · rw [Bool.false_and]
    have e1 : (rgS l).any (onS p ∘ rsS) = false := by
      rw [List.any_eq_false]; intro s _; show ¬ onS p (rsS s) = true; rw [onS_out hp]; decide
    have e2 : (rgS l).countP (crR p ∘ rsS) = 0 := by
      rw [List.countP_eq_zero]; intro s _; show ¬ crR p (rsS s) = true; rw [crR_out hp]; decide
    rw [e1, e2]; rfl
  · rw [Bool.true_and]
    have e1 : onS p ∘ rsS = onS p := funext fun s => onS_rs p s
    have e2 : (rgS l).countP (crR p ∘ rsS) = (rgS l).countP (crC p) := List.countP_congr fun s hs => by
      show crR p (rsS s) = true ↔ _
      rw [crR_rs (hok s hs) hp]
    rw [e1, e2]
/-- So far. -/
def parV (p : Int × Int) (L : List (Int × Int × Int × Int)) (j : Nat) : Bool := decide ((L.take j).countP (crR p) % 2 = 1)
theorem parV_step {p : Int × Int} {L : List (Int × Int × Int × Int)} {j : Nat} {x : Int × Int × Int × Int} (h : L[j]? = some x) : parV p L (j + 1) = if crR p x = true then !(parV p L j) else parV p L j := by
  unfold parV
  rw [List.take_add_one, h, List.countP_append]
  show decide (((L.take j).countP (crR p) + List.countP (crR p) [x]) % 2 = 1) = _
  rw [List.countP_singleton]
  split
  · rw [← decide_not]; exact decide_eq_decide.2 (by omega)
  · rfl
theorem ins_end {p : Int × Int} {L : List (Int × Int × Int × Int)} (h : ∀ k, k < L.length → ∀ x, L[k]? = some x → onS p x = false) : insV p L = parV p L L.length := by
  have : L.any (onS p) = false := by
    rw [List.any_eq_false]; intro s hs
    obtain ⟨k, hk⟩ := List.getElem?_of_mem hs
    rw [h k (List.getElem?_eq_some_iff.1 hk).1 s hk]; decide
  unfold insV parV
  rw [this, List.take_length, Bool.false_or]
theorem ins_on {p : Int × Int} {L : List (Int × Int × Int × Int)} {j : Nat} {x : Int × Int × Int × Int} (hx : L[j]? = some x) (h : onS p x = true) : insV p L = true := by
  unfold insV
  rw [List.any_eq_true.2 ⟨x, List.mem_of_getElem? hx, h⟩, Bool.true_or]
/-- Behind an edge that begins above p there is none on p or to the right of it. -/
theorem ins_break {p : Int × Int} {L : List (Int × Int × Int × Int)} (hlow : LowFirst L) (hup : ∀ x ∈ L, x.2.1 ≤ x.2.2.2) {j : Nat} {x : Int × Int × Int × Int} (hx : L[j]? = some x) (hgt : p.2 < x.2.1) (h : ∀ k, k < j → ∀ x, L[k]? = some x → onS p x = false) : insV p L = parV p L j := by
  have hj := (List.getElem?_eq_some_iff.1 hx).1
  have hge : ∀ k y, j ≤ k → L[k]? = some y → p.2 < y.2.1 := fun k y hk hy => by
    by_cases e : k = j
    · subst e; rw [hx] at hy; cases hy; exact hgt
    · exact Int.lt_of_lt_of_le hgt (hlow j k x y (by omega) hx hy)
  have hon : ∀ y : Int × Int × Int × Int, y ∈ L → p.2 < y.2.1 → onS p y = false := fun y hyL hy => by
    cases ho : onS p y
    · rfl
    · obtain ⟨-, -, -, h3, -⟩ := onV_iff.1 ho
      have := hup y hyL
      omega
  have hall : ∀ k, k < L.length → ∀ x, L[k]? = some x → onS p x = false := fun k hk y hy => by
    by_cases e : k < j
    · exact h k e y hy
    · exact hon y (List.mem_of_getElem? hy) (hge k y (by omega) hy)
  rw [ins_end hall]
  unfold parV
  rw [List.take_length]
  have e0 : (L.drop j).countP (crR p) = 0 := by
    rw [List.countP_eq_zero]
    intro y hy
    obtain ⟨k, hk⟩ := List.getElem?_of_mem hy
    rw [List.getElem?_drop] at hk
    have := hge (j + k) y (by omega) hk
    unfold crR
    have e : inB p.2 y.2.1 (y.2.2.2 - 1) = false := inB_low this
    rw [e]; simp
  have e1 := List.countP_append (p := crR p) (l₁ := L.take j) (l₂ := L.drop j)
  rw [List.take_append_drop, e0] at e1
  rw [e1]; rfl
end Go.Proofs.YtbnjaaegbmhopaaGreatDoor
namespace Go.Proofs.YtbnjaaegbmhopaaGreatDoor
open Go.ChangeShapes Go.WideShapes Go.ChangeAt Go.RowKit
set_option linter.unusedVariables false

set_option maxRecDepth 100000 in
set_option maxHeartbeats 1000000 in
theorem isInside_is (a0 : Addr) (A : Option Addr) (c : Nat) (l : List (Int × Int)) (x y : Int) (w : World) (hE : ErrAt a0 w) (hs : SeesE 2 encPoint w w.heap.size A l) (hl : l.length ≤ 274877906944) (hlc : l.length ≤ c) (hc : (c : Int) ≤ 9223372036854775807) (z : Bool) (hz : inV l (x, y) = z) :
    Calls Tryz.prog 15 #[.slice A l.length c, PtV x y] w fun e w' => e = .returned (.bool z) ∧ Below w.heap.size w w' := by
  have HE := Lib.hid (hE.alloc (.cells #[.int .i64 x, .int .i64 y] 33))
  have HB0 := Lib.hid ((Below.refl w.heap.size w).alloc (Nat.le_refl _) (.cells #[.int .i64 x, .int .i64 y] 33))
  have HS := Lib.hid ((hs.alloc (Nat.le_refl _) (.cells #[.int .i64 x, .int .i64 y] 33)).mono HB0.out.size)
  have HP := Lib.hid (Vars.of1 w #[.int .i64 x, .int .i64 y] 33)
  have HV := Lib.hid hz
  clear hE hs hz
  cases hz : isRg l
  · obtain rfl : z = false := by rw [← HV.out]; unfold inV; rw [hz]; rfl
    go_enter Tryz.func15, Tryz.ntmps15
    go_wp2_with fail
    refine (joinRing_no a0 A c l _ HE.out HS.out hl hlc hc hz).mono ?_
    rintro e w1 ⟨rfl, hb1⟩
    have hE1 : ErrAt a0 w1 := HE.out.all hb1
    unfold ErrAt at hE1
    have HB1 := Lib.hid (HB0.out.trans (hb1.mono HB0.out.size))
    clear hb1
    go_wp2_with (go_at_call 46; refine (is_same a0 _).mono ?_; rintro e w2 ⟨rfl, rfl⟩)
    go_ret
    exact ⟨rfl, HB1.out⟩
  · have HOK : Hid ((∀ x ∈ rgS l, sOk x = true) ∧ (3 ≤ (rgS l).length ∧ (rgS l).length ≤ 10)) := Lib.hid ⟨((isRg_iff l).1 hz).2.1, by rw [rgS_len]; exact ((isRg_iff l).1 hz).1⟩
    have HW : Hid (insV (x, y) ((rgS l).map rsS) = z) := Lib.hid (by rw [insV_rs hz]; exact HV.out)
    go_enter Tryz.func15, Tryz.ntmps15
    go_wp2_with fail
    refine (joinRing_yes a0 A c l _ HE.out HS.out hl hlc hc hz).mono ?_
    rintro e w1 ⟨A1, c1, L, hL, rfl, ho1, hb1⟩
    have hE1 : ErrAt a0 w1 := HE.out.all hb1
    unfold ErrAt at hE1
    have HB1 := Lib.hid (HB0.out.trans (hb1.mono HB0.out.size)); have HO1 := Lib.hid ho1; have HL := hL
    have HP1 := Lib.hid (HP.out.next hb1)
    have hLn : 0 < L.length ∧ L.length ≤ 1000 := by rw [hL.out]; have := HOK.out.2; omega
    clear hb1 ho1 hL
    go_wp2_with (first
      | (go_at_call 46; refine (is_nil a0 _).mono ?_; rintro e w2 ⟨rfl, rfl⟩)
      | (go_at_call 51; refine (sortByHeight_any A1 c1 L _ (HO1.out.sees elSegment) hLn.1 hLn.2).mono ?_; rintro e w3 ⟨A3, c3, L3, hp3, hlow, rfl, hs3, hb3⟩))
    have HB3 := Lib.hid (HB1.out.trans (hb3.mono HB1.out.size))
    have HP3 := Lib.hid (HP1.out.next hb3)
    have HS3 := Lib.hid hs3
    have HI : Hid (insV (x, y) L3 = z) := Lib.hid (by rw [insV_perm hp3.out, HL.out]; exact HW.out)
    have HUP : Hid (∀ s ∈ L3, s.2.1 ≤ s.2.2.2 ∧ sOk s = true) := Lib.hid (fun s hs => by
      have := (hp3.out.mem_iff).1 hs
      obtain ⟨t, ht, rfl⟩ := List.mem_map.1 this
      exact ⟨rs_up t, by rw [sOk_rs]; exact HOK.out.1 t (by rw [← HL.out]; exact ht)⟩)
    have HLOW := Lib.hid hlow
    have h3 : L3.length ≤ 1000 := by rw [hp3.out.length_eq, List.length_map]; exact hLn.2
    clear hs3 hb3 hp3 hlow hLn
    go_loopw [7, 21] (fun v i wr => ∃ j : Nat, j ≤ L3.length ∧ v = .bool (parV (x, y) L3 j) ∧ i = .int .i64 j ∧ Hid (∀ k, k < j → ∀ s, L3[k]? = some s → onS (x, y) s = false) ∧ Hid (Below w3.heap.size w3 wr)) (fun _ i _ => L3.length - (intOf i).toNat)
    case atStart => exact ⟨0, Nat.zero_le _, rfl, rfl, Lib.hid (fun k hk => by omega), Lib.hid (Below.refl _ _)⟩
    case round =>
      obtain ⟨j, hj, rfl, rfl, hon, HB⟩ := hrel
      by_cases hlt : j < L3.length
      · have hlt' : (j : Int) < (L3.length : Int) := by omega
        obtain ⟨b, off, s, rfl, hbl, hx, -⟩ := (HS3.out.below HB.out).lt hlt
        obtain ⟨k0, k1, k2, k3⟩ := cells4 (HS3.out.below HB.out) hx
        have HX := Lib.hid hx
        have HUs := HUP.out s (List.mem_of_getElem? hx)
        have HPA := Lib.hid ((HP3.out.next HB.out).al (.cells (sC s) 78))
        have HEA := Lib.hid (Vars.of1 wr (sC s) 78)
        have HBA := Lib.hid (HB.out.alloc HB.out.size (.cells (sC s) 78))
        obtain ⟨q0, q1⟩ := HPA.out.c20
        clear hx
        by_cases hgt : y < s.2.1
        · obtain rfl : parV (x, y) L3 j = z := by rw [← HI.out]; exact (ins_break HLOW.out (fun t ht => (HUP.out t ht).1) HX.out hgt hon.out).symm
          go_wp2
          go_ret
          exact ⟨rfl, HB3.out.trans (HBA.out.mono HB3.out.size)⟩
        · have hSok : isS s.1 s.2.1 s.2.2.1 s.2.2.2 = true := HUs.2
          obtain ⟨N, hN⟩ : ∃ N, parV (x, y) L3 j = N := ⟨_, rfl⟩
          have HN := Lib.hid hN
          rw [hN]
          clear hN
          cases ho : onS (x, y) s
          · have hb' : ∀ k, k < j + 1 → ∀ t, L3[k]? = some t → onS (x, y) t = false := fun k hk t ht => by
              by_cases e : k = j
              · subst e; rw [HX.out] at ht; cases ht; exact ho
              · exact hon.out k (by omega) t ht
            have HON := Lib.hid hb'
            have HO : ∀ W, Calls Tryz.prog 52 #[sV s, PtV x y] W fun e w' => e = .returned (.bool false) ∧ Below W.heap.size W w' := fun W => isOn_is _ _ _ _ _ _ false W ho
            clear hb' ho
            cases hcr : crR (x, y) s
            · have HP1 : Hid (parV (x, y) L3 (j + 1) = N) := Lib.hid (by rw [parV_step HX.out, if_neg (by rw [hcr]; decide)]; exact HN.out)
              have HC : ∀ W, Calls Tryz.prog 53 #[sV s, PtV x y] W fun e w' => e = .returned (.bool false) ∧ Below W.heap.size W w' := fun W => crosses_is _ _ _ _ _ _ W hSok false hcr
              go_wp2_with (first
                | (go_at_call 52; refine (HO _).mono ?_; rintro e w5 ⟨rfl, hb5⟩; have HB5 := Lib.hid (HBA.out.trans (hb5.mono HBA.out.size)); have HP5 := Lib.hid (HPA.out.next hb5); have HE5 := Lib.hid (HEA.out.next hb5); obtain ⟨g0, g1, g2, g3⟩ := HE5.out.c40; obtain ⟨r0, r1⟩ := HP5.out.c20)
                | (go_at_call 53; refine (HC _).mono ?_; rintro e w6 ⟨rfl, hb6⟩; have HB6 := Lib.hid (HB5.out.trans (hb6.mono HB5.out.size))))
              go_roundw
              case rel => exact ⟨j + 1, by omega, by rw [HP1.out], by go_num, HON, HB6⟩
              case measure => simp [intOf]; omega
            · have HP1 : Hid (parV (x, y) L3 (j + 1) = !N) := Lib.hid (by rw [parV_step HX.out, if_pos hcr, HN.out])
              have HC : ∀ W, Calls Tryz.prog 53 #[sV s, PtV x y] W fun e w' => e = .returned (.bool true) ∧ Below W.heap.size W w' := fun W => crosses_is _ _ _ _ _ _ W hSok true hcr
              go_wp2_with (first
                | (go_at_call 52; refine (HO _).mono ?_; rintro e w5 ⟨rfl, hb5⟩; have HB5 := Lib.hid (HBA.out.trans (hb5.mono HBA.out.size)); have HP5 := Lib.hid (HPA.out.next hb5); have HE5 := Lib.hid (HEA.out.next hb5); obtain ⟨g0, g1, g2, g3⟩ := HE5.out.c40; obtain ⟨r0, r1⟩ := HP5.out.c20)
                | (go_at_call 53; refine (HC _).mono ?_; rintro e w6 ⟨rfl, hb6⟩; have HB6 := Lib.hid (HB5.out.trans (hb6.mono HB5.out.size))))
              go_roundw
              case rel => exact ⟨j + 1, by omega, by rw [HP1.out], by go_num, HON, HB6⟩
              case measure => simp [intOf]; omega
          · obtain rfl : z = true := by rw [← HI.out]; exact ins_on HX.out ho
            have HO : ∀ W, Calls Tryz.prog 52 #[sV s, PtV x y] W fun e w' => e = .returned (.bool true) ∧ Below W.heap.size W w' := fun W => isOn_is _ _ _ _ _ _ true W ho
            go_wp2_with (go_at_call 52; refine (HO _).mono ?_; rintro e w5 ⟨rfl, hb5⟩; have HB5 := Lib.hid (HBA.out.trans (hb5.mono HBA.out.size)))
            go_ret
            exact ⟨rfl, HB3.out.trans (HB5.out.mono HB3.out.size)⟩
      · obtain rfl : j = L3.length := by omega
        obtain rfl : parV (x, y) L3 L3.length = z := by rw [← HI.out]; exact (ins_end hon.out).symm
        go_wp2
        go_ret
        exact ⟨rfl, HB3.out.trans (HB.out.mono HB3.out.size)⟩
end Go.Proofs.YtbnjaaegbmhopaaGreatDoor
end
section
/- What the statements list of errNoRing, as the walks read it. -/
namespace Go.Proofs.YtbnjaaegbmhopaaGreatDoor
open Go.ChangeShapes Go.WideShapes Go.ChangeAt Go.RowKit Go.Stop
set_option linter.unusedVariables false
set_option maxRecDepth 100000

theorem errName : Tryz.prog.globalNamed "loop.example/g03005/impl.errNoRing" = some 0 := by kernel_rfl
theorem errType : (Tryz.prog.globals[0]?).map (·.type) = some 73 := by kernel_rfl
theorem errStar : "*" ++ "errors.errorString" = "*errors.errorString" := by decide
theorem errRow (u : TypeId) (h : Tryz.prog.typeName? 3 u = some "*errors.errorString") : u = 221 :=
  typeName_ptr_named (nm := "errors.errorString") (by rw [errStar]; kernel_rfl) (by kernel_rfl) (by decide) u (by rw [errStar]; exact h)
theorem errCells : Tryz.prog.cellsOf 246 = 1 := by kernel_rfl
theorem strCells : Tryz.prog.cellsOf 9 = 1 := by kernel_rfl
theorem errAt_of {w : World} (hL : laidMet Tryz.prog [("loop.example/g03005/impl.errNoRing", Rows.laid_loop_example_g03005_impl_errNoRing)] w) : ∃ a0, ErrAt a0 w := by
  obtain ⟨a, s, hv, -, -, -⟩ := laid_sentinel (tp := 221) (te := 246) (ts := 9) hL errName errType Tryz.underlying73 errRow Tryz.underlying221 Tryz.underlying246 rfl rfl Tryz.underlying9 errCells strCells
  exact ⟨a, by have := World.var?_cell errName hv 0; simpa [ErrAt] using this⟩
theorem errVar_of {w : World} (hL : laidMet Tryz.prog [("loop.example/g03005/impl.errNoRing", Rows.laid_loop_example_g03005_impl_errNoRing)] w) : ∃ a0, w.var? Tryz.prog "loop.example/g03005/impl.errNoRing" = some #[.iface 221 (.pointer (some a0))] := by
  obtain ⟨a, s, hv, -, -, -⟩ := laid_sentinel (tp := 221) (te := 246) (ts := 9) hL errName errType Tryz.underlying73 errRow Tryz.underlying221 Tryz.underlying246 rfl rfl Tryz.underlying9 errCells strCells
  exact ⟨a, hv⟩
theorem errVars {H : Type} (enc : TypeId × Value → H) {W : World} {a0 : Addr} (h : W.var? Tryz.prog "loop.example/g03005/impl.errNoRing" = some #[.iface 221 (.pointer (some a0))]) (sp : Nat → Bool) :
    DataW.TrodVars enc Tryz.prog W sp ["loop.example/g03005/impl.errNoRing"] [tok enc (.iface 221 (.pointer (some a0)))] [.cell 0 0] :=
  vars_read1 enc errName errType Tryz.underlying73 h trivial sp
theorem errVar_below {W W' : World} {a0 : Addr} (h : W.var? Tryz.prog "loop.example/g03005/impl.errNoRing" = some #[.iface 221 (.pointer (some a0))]) (hb : Below W.heap.size W W') : W'.var? Tryz.prog "loop.example/g03005/impl.errNoRing" = some #[.iface 221 (.pointer (some a0))] :=
  var?_below hb errName (World.block_lt_of_cell? _ _ (World.var?_cell errName h 0)) h
end Go.Proofs.YtbnjaaegbmhopaaGreatDoor
end
section
/- FnRings: its walk. -/
namespace Go.Proofs.YtbnjaaegbmhopaaGreatDoor
open Go.ChangeShapes Go.WideShapes Go.ChangeAt Go.RowKit
set_option linter.unusedVariables false

theorem OwnE.capLe {α : Type} {n : Nat} {enc : α → List Value} {w : World} {B : Nat} {e : TypeId} {A : Option Addr} {m c : Nat} {L : List α} (h : OwnE n enc w B e (.slice A m c) L) : (c : Int) ≤ 9223372036854775807 := by
  obtain ⟨A', c', hv, hc, -⟩ := h.form
  simp only [Value.slice.injEq] at hv
  unfold maxLen at hc
  omega
theorem twA_bd (l : List (Int × Int)) : -400000 ≤ twA l ∧ twA l ≤ 400000 := by
  cases h : isRg l
  · rw [twA_no h]; decide
  · rw [twA_yes h]
    have h1 := (isRg_iff l).1 h
    have := arV_bd_take (S := rgS l) h1.2.1 (by rw [rgS_len]; exact h1.1.2) (rgS l).length
    rwa [List.take_length] at this
theorem isRg_rotV (l : List (Int × Int)) (k : Int) : isRg (rotV l k) = isRg l := by
  unfold rotV; split
  · next h => simp only [inB, decide_eq_true_eq] at h; exact isRg_cut l (by omega)
  · rfl
theorem twA_rotV (l : List (Int × Int)) (k : Int) : twA (rotV l k) = twA l := by
  unfold rotV; split
  · next h => simp only [inB, decide_eq_true_eq] at h; exact twA_cut l (by omega)
  · rfl
theorem rotV_len' (l : List (Int × Int)) (k : Int) : (rotV l k).length = l.length := by
  unfold rotV; split
  · next h => simp only [inB, decide_eq_true_eq] at h; simp; omega
  · rfl
theorem rsV_eq (l : List (Int × Int)) (h0 : ¬ l.length = 0) : decide ((rsV l).length = l.length) = isRg l := by
  unfold rsV
  cases h : isRg l
  · simp; omega
  · simp [rgS_len]
set_option maxRecDepth 100000 in
set_option maxHeartbeats 8000000 in
theorem law_FnRings (w : World) (a0 : Addr) (hE : ErrAt a0 w) (A : Option Addr) (len cap : Nat) (hc : Code w w.heap.size A len) :
    Calls Tryz.prog 3 #[.slice A len cap] w fun e w' => e = .returned (.bool true) ∧ Below w.heap.size w w' := by
  have hlen := hc.1
  have HE := Lib.hid hE; clear hE
  by_cases hbig : 1048576 < len
  · go_enter Tryz.func3, Tryz.ntmps3
    go_wp2_with fail
    refine (big_yes A len cap _ hbig).mono ?_
    rintro e w0 ⟨rfl, rfl⟩
    go_wp2
    go_ret
    exact ⟨rfl, Below.refl _ _⟩
  · go_enter Tryz.func3, Tryz.ntmps3
    have HC := Lib.hid hc; clear hc
    go_wp2_with fail
    refine (big_no A len cap _ (by omega)).mono ?_
    rintro e w0 ⟨rfl, rfl⟩
    have HB := Lib.hid (Below.refl w.heap.size w)
    go_wp2_with fail
    refine (drawIsRing_any A len cap _ _ HC.out).mono ?_
    rintro e w9 ⟨Al, cl, l, rfl, hl2, hl6, hlc, hlm, hf, hs, hb9⟩
    have HSl := Lib.hid hs; have HF := Lib.hid hf; clear hs hf
    have hln : l.length ≤ 274877906944 := by omega
    have HB := Lib.hid (HB.out.trans (hb9.mono HB.out.size))
    clear hb9
    obtain ⟨z, hz⟩ : ∃ z, isRg l = z := ⟨_, rfl⟩
    obtain ⟨ar, har⟩ : ∃ z, twA l = z := ⟨_, rfl⟩
    have hab : -400000 ≤ ar ∧ ar ≤ 400000 := by rw [← har]; exact twA_bd l
    have hng : IntKind.i64.wrap (-ar) = -ar := IntWalk.i64_in _ (by omega)
    have HZ := Lib.hid hz; have HAr := Lib.hid har; clear hz har
    go_wp2_with fail
    refine (turnRing_any Al cl l _ HSl.out hln hlc hlm).mono ?_
    rintro e w9 ⟨At, ct, t, HLt, rfl, ho9, hb9⟩
    have HOt := Lib.hid ho9; clear ho9
    have htl : t.length = l.length := by rw [HLt.out, trn_len]
    have htn : t.length ≤ 274877906944 := by omega
    have htc := HOt.out.cap; have htm := HOt.out.capLe
    have HZt : Hid (isRg t = z) := Lib.hid (by rw [HLt.out, isRg_trn]; exact HZ.out)
    have HAt : Hid (twA t = -ar) := Lib.hid (by rw [HLt.out, twA_trn, HAr.out])
    have HTL := Lib.hid htl; clear htl
    have HB := Lib.hid (HB.out.trans (hb9.mono HB.out.size))
    have HSl := Lib.hid (HSl.out.belowAll hb9)
    clear hb9
    go_upto_region 5 with fail
    go_cut [38] (fun s wx => s = .bool false ∧ Hid (Below w.heap.size w wx) ∧ Hid (SeesE 2 encPoint wx wx.heap.size Al l))
    case first =>
      cases z
      · go_wp2_with (first
          | (go_at_call 10; with_reducible refine (isRing_is a0 Al cl l _ (HE.out.all HB.out) HSl.out hln hlc hlm false HZ.out).mono ?_; rintro e w9 ⟨rfl, hb9⟩; have HB := Lib.hid (HB.out.trans (hb9.mono HB.out.size)); have HSl := Lib.hid (HSl.out.belowAll hb9); have HOt := Lib.hid (HOt.out.belowAll hb9); clear hb9)
          | (go_at_call 10; with_reducible refine (isRing_is a0 At ct t _ (HE.out.all HB.out) (HOt.out.sees elPoint) htn htc htm false HZt.out).mono ?_; rintro e w9 ⟨rfl, hb9⟩; have HB := Lib.hid (HB.out.trans (hb9.mono HB.out.size)); have HSl := Lib.hid (HSl.out.belowAll hb9); have HOt := Lib.hid (HOt.out.belowAll hb9); clear hb9)
          | (go_at_call 11; with_reducible refine (twiceArea_is a0 At ct t _ (HE.out.all HB.out) (HOt.out.sees elPoint) htn htc htm (-ar) HAt.out).mono ?_; rintro e w9 ⟨rfl, hb9⟩; have HB := Lib.hid (HB.out.trans (hb9.mono HB.out.size)); have HSl := Lib.hid (HSl.out.belowAll hb9); have HOt := Lib.hid (HOt.out.belowAll hb9); clear hb9)
          | (go_at_call 11; with_reducible refine (twiceArea_is a0 Al cl l _ (HE.out.all HB.out) HSl.out hln hlc hlm ar HAr.out).mono ?_; rintro e w9 ⟨rfl, hb9⟩; have HB := Lib.hid (HB.out.trans (hb9.mono HB.out.size)); have HSl := Lib.hid (HSl.out.belowAll hb9); have HOt := Lib.hid (HOt.out.belowAll hb9); clear hb9)
          | fail)
        go_meet
        exact ⟨rfl, HB, HSl⟩
      · have hne : ¬ ar = 0 := by rw [← HAr.out]; exact HF.out HZ.out
        have hne' : (ar == 0) = false := by simp [hne]
        go_wp2_with (first
          | (go_at_call 10; with_reducible refine (isRing_is a0 Al cl l _ (HE.out.all HB.out) HSl.out hln hlc hlm true HZ.out).mono ?_; rintro e w9 ⟨rfl, hb9⟩; have HB := Lib.hid (HB.out.trans (hb9.mono HB.out.size)); have HSl := Lib.hid (HSl.out.belowAll hb9); have HOt := Lib.hid (HOt.out.belowAll hb9); clear hb9)
          | (go_at_call 10; with_reducible refine (isRing_is a0 At ct t _ (HE.out.all HB.out) (HOt.out.sees elPoint) htn htc htm true HZt.out).mono ?_; rintro e w9 ⟨rfl, hb9⟩; have HB := Lib.hid (HB.out.trans (hb9.mono HB.out.size)); have HSl := Lib.hid (HSl.out.belowAll hb9); have HOt := Lib.hid (HOt.out.belowAll hb9); clear hb9)
          | (go_at_call 11; with_reducible refine (twiceArea_is a0 At ct t _ (HE.out.all HB.out) (HOt.out.sees elPoint) htn htc htm (-ar) HAt.out).mono ?_; rintro e w9 ⟨rfl, hb9⟩; have HB := Lib.hid (HB.out.trans (hb9.mono HB.out.size)); have HSl := Lib.hid (HSl.out.belowAll hb9); have HOt := Lib.hid (HOt.out.belowAll hb9); clear hb9)
          | (go_at_call 11; with_reducible refine (twiceArea_is a0 Al cl l _ (HE.out.all HB.out) HSl.out hln hlc hlm ar HAr.out).mono ?_; rintro e w9 ⟨rfl, hb9⟩; have HB := Lib.hid (HB.out.trans (hb9.mono HB.out.size)); have HSl := Lib.hid (HSl.out.belowAll hb9); have HOt := Lib.hid (HOt.out.belowAll hb9); clear hb9)
          | fail)
        go_meet
        exact ⟨rfl, HB, HSl⟩
    case rest =>
    obtain ⟨rfl, HB', HSl'⟩ := hcut
    clear HB HSl HOt HTL HLt HZt HAt htn htc htm; have HB := HB'; have HSl := HSl'; clear HB' HSl'
    go_wp2_with fail
    refine (drawRotateRing_any A len cap _ _ (code_below HC.out HB.out)).mono ?_
    rintro e w9 ⟨Ax, cx, x, k, rfl, hx2, hx6, hxc, hxm, ⟨hk0, hk1⟩, hs, hb9⟩
    have HSx := Lib.hid hs; clear hs
    have hxn : x.length ≤ 274877906944 := by omega
    have HB := Lib.hid (HB.out.trans (hb9.mono HB.out.size))
    have HSl := Lib.hid (HSl.out.belowAll hb9)
    clear hb9
    obtain ⟨zx, hz⟩ : ∃ z, isRg x = z := ⟨_, rfl⟩
    obtain ⟨ax, har⟩ : ∃ z, twA x = z := ⟨_, rfl⟩
    have HZx := Lib.hid hz; have HAx := Lib.hid har; clear hz har
    have hkw : (Lit.int .i64 k).wf = true := by
      have e1 : IntKind.i64.min = -9223372036854775808 := by decide
      have e2 : IntKind.i64.max = 9223372036854775807 := by decide
      simp only [Lit.wf, e1, e2, Bool.and_eq_true, decide_eq_true_eq]; omega
    go_wp2_with fail
    refine (rotateRing_any Ax cx x k _ HSx.out hxn hxc hxm hkw).mono ?_
    rintro e w9 ⟨Ar, cr, r, HLr, rfl, ho9, hb9⟩
    have HOr := Lib.hid ho9; clear ho9
    have hrl : r.length = x.length := by rw [HLr.out, rotV_len']
    have hrn : r.length ≤ 274877906944 := by omega
    have hrc := HOr.out.cap; have hrm := HOr.out.capLe
    have HZr : Hid (isRg r = zx) := Lib.hid (by rw [HLr.out, isRg_rotV]; exact HZx.out)
    have HAr' : Hid (twA r = ax) := Lib.hid (by rw [HLr.out, twA_rotV, HAx.out])
    have hri : (r.length : Int) = (x.length : Int) := by omega
    clear hrl
    have HB := Lib.hid (HB.out.trans (hb9.mono HB.out.size))
    have HSl := Lib.hid (HSl.out.belowAll hb9)
    have HSx := Lib.hid (HSx.out.belowAll hb9)
    clear hb9
    go_upto_region 9 with fail
    go_cut [65] (fun s wx => s = .bool false ∧ Hid (Below w.heap.size w wx) ∧ Hid (SeesE 2 encPoint wx wx.heap.size Al l))
    case first =>
      cases zx
      · go_wp2_with (first
          | (go_at_call 10; with_reducible refine (isRing_is a0 Ax cx x _ (HE.out.all HB.out) HSx.out hxn hxc hxm false HZx.out).mono ?_; rintro e w9 ⟨rfl, hb9⟩; have HB := Lib.hid (HB.out.trans (hb9.mono HB.out.size)); have HSl := Lib.hid (HSl.out.belowAll hb9); have HSx := Lib.hid (HSx.out.belowAll hb9); have HOr := Lib.hid (HOr.out.belowAll hb9); clear hb9)
          | (go_at_call 10; with_reducible refine (isRing_is a0 Ar cr r _ (HE.out.all HB.out) (HOr.out.sees elPoint) hrn hrc hrm false HZr.out).mono ?_; rintro e w9 ⟨rfl, hb9⟩; have HB := Lib.hid (HB.out.trans (hb9.mono HB.out.size)); have HSl := Lib.hid (HSl.out.belowAll hb9); have HSx := Lib.hid (HSx.out.belowAll hb9); have HOr := Lib.hid (HOr.out.belowAll hb9); clear hb9)
          | (go_at_call 11; with_reducible refine (twiceArea_is a0 Ax cx x _ (HE.out.all HB.out) HSx.out hxn hxc hxm ax HAx.out).mono ?_; rintro e w9 ⟨rfl, hb9⟩; have HB := Lib.hid (HB.out.trans (hb9.mono HB.out.size)); have HSl := Lib.hid (HSl.out.belowAll hb9); have HSx := Lib.hid (HSx.out.belowAll hb9); have HOr := Lib.hid (HOr.out.belowAll hb9); clear hb9)
          | (go_at_call 11; with_reducible refine (twiceArea_is a0 Ar cr r _ (HE.out.all HB.out) (HOr.out.sees elPoint) hrn hrc hrm ax HAr'.out).mono ?_; rintro e w9 ⟨rfl, hb9⟩; have HB := Lib.hid (HB.out.trans (hb9.mono HB.out.size)); have HSl := Lib.hid (HSl.out.belowAll hb9); have HSx := Lib.hid (HSx.out.belowAll hb9); have HOr := Lib.hid (HOr.out.belowAll hb9); clear hb9)
          | fail)
        go_meet
        exact ⟨rfl, HB, HSl⟩
      · go_wp2_with (first
          | (go_at_call 10; with_reducible refine (isRing_is a0 Ax cx x _ (HE.out.all HB.out) HSx.out hxn hxc hxm true HZx.out).mono ?_; rintro e w9 ⟨rfl, hb9⟩; have HB := Lib.hid (HB.out.trans (hb9.mono HB.out.size)); have HSl := Lib.hid (HSl.out.belowAll hb9); have HSx := Lib.hid (HSx.out.belowAll hb9); have HOr := Lib.hid (HOr.out.belowAll hb9); clear hb9)
          | (go_at_call 10; with_reducible refine (isRing_is a0 Ar cr r _ (HE.out.all HB.out) (HOr.out.sees elPoint) hrn hrc hrm true HZr.out).mono ?_; rintro e w9 ⟨rfl, hb9⟩; have HB := Lib.hid (HB.out.trans (hb9.mono HB.out.size)); have HSl := Lib.hid (HSl.out.belowAll hb9); have HSx := Lib.hid (HSx.out.belowAll hb9); have HOr := Lib.hid (HOr.out.belowAll hb9); clear hb9)
          | (go_at_call 11; with_reducible refine (twiceArea_is a0 Ax cx x _ (HE.out.all HB.out) HSx.out hxn hxc hxm ax HAx.out).mono ?_; rintro e w9 ⟨rfl, hb9⟩; have HB := Lib.hid (HB.out.trans (hb9.mono HB.out.size)); have HSl := Lib.hid (HSl.out.belowAll hb9); have HSx := Lib.hid (HSx.out.belowAll hb9); have HOr := Lib.hid (HOr.out.belowAll hb9); clear hb9)
          | (go_at_call 11; with_reducible refine (twiceArea_is a0 Ar cr r _ (HE.out.all HB.out) (HOr.out.sees elPoint) hrn hrc hrm ax HAr'.out).mono ?_; rintro e w9 ⟨rfl, hb9⟩; have HB := Lib.hid (HB.out.trans (hb9.mono HB.out.size)); have HSl := Lib.hid (HSl.out.belowAll hb9); have HSx := Lib.hid (HSx.out.belowAll hb9); have HOr := Lib.hid (HOr.out.belowAll hb9); clear hb9)
          | fail)
        go_meet
        exact ⟨rfl, HB, HSl⟩
    case rest =>
    obtain ⟨rfl, HB', HSl'⟩ := hcut
    clear HB HSl HOr HLr HZr HAr' hrn hrc hrm HSx hri; have HB := HB'; have HSl := HSl'; clear HB' HSl'
    go_wp2_with fail
    refine (drawIsInside_any A len cap _ _ (code_below HC.out HB.out)).mono ?_
    rintro e w9 ⟨Ay, cy, y, px, py, rfl, hy2, hy6, hyc, hym, hs, hb9⟩
    have HSy := Lib.hid hs; clear hs; have hw9 : Hid (w.heap.size ≤ w9.heap.size) := Lib.hid (Nat.le_trans HB.out.size hb9.size)
    have hyn : y.length ≤ 274877906944 := by omega
    have HB := Lib.hid (HB.out.trans (hb9.mono HB.out.size))
    have HSl := Lib.hid (HSl.out.belowAll hb9)
    clear hb9
    obtain ⟨v, hv⟩ : ∃ z, inV y (px, py) = z := ⟨_, rfl⟩
    have HV := Lib.hid hv; clear hv
    go_upto_region 12 with fail
    have HP := Lib.hid (Vars.of1 w9 #[.int .i64 px, .int .i64 py] 33)
    have HSl' := Lib.hid (HSl.out.belowAll ((Below.refl _ _).alloc (Nat.le_refl _) (.cells #[.int .i64 px, .int .i64 py] 33))); have HSy' := Lib.hid (HSy.out.belowAll ((Below.refl _ _).alloc (Nat.le_refl _) (.cells #[.int .i64 px, .int .i64 py] 33))); have HB' := Lib.hid (HB.out.alloc HB.out.size (.cells #[.int .i64 px, .int .i64 py] 33))
    clear HB HSl HSy; have HB := HB'; have HSl := HSl'; have HSy := HSy'; clear HB' HSl' HSy'
    have hz9 : w.heap.size ≤ w9.heap.size := hw9.out
    generalize w9.alloc (.cells #[.int .i64 px, .int .i64 py] 33) = wp at HB HSl HSy HP ⊢
    have HBd := Lib.hid HB.out.drew; have HPd := Lib.hid HP.out.drew; have HSyd := Lib.hid HSy.out.drew; have HSld := Lib.hid HSl.out.drew
    have hq := HP.out.c20; have HQd := Lib.hid HPd.out.c20
    have HVu : Hid (∀ u, u = trn y → inV u (px, py) = v) := Lib.hid (fun u hu => by rw [hu, inV_trn]; exact HV.out)
    go_cut [78] (fun s wx => s = .bool false ∧ Hid (Below w.heap.size w wx) ∧ Hid (SeesE 2 encPoint wx wx.heap.size Al l) ∧ Hid (SeesE 2 encPoint wx wx.heap.size Ay y) ∧ Hid (Vars w9 wx [#[.int .i64 px, .int .i64 py]]))
    case first =>
      go_region_held3 (fun w' => w'.cell? ⟨w9.heap.size, 0, none⟩ = some (.int .i64 px) ∧ w'.cell? ⟨w9.heap.size, 1, none⟩ = some (.int .i64 py)) (first | with_reducible exact hq | with_reducible exact HQd.out | with_reducible exact HQa.out | with_reducible exact HQb.out | with_reducible exact HQc.out) (first
        | (go_at_call 15; refine (isInside_is a0 Au cu u px py _ (HE.out.all HBb.out) HOb.out hun HUC.out.1 HUC.out.2 v (HVu.out u HLu.out)).mono ?_; rintro e wc ⟨rfl, hbc⟩; have HBc := Lib.hid (HBb.out.trans (hbc.mono HBb.out.size)); have HPc := Lib.hid (HPb.out.next hbc); have HQc := Lib.hid HPc.out.c20; have HSlc := Lib.hid (HSlb.out.belowAll hbc); have HSyc := Lib.hid (HSyb.out.belowAll hbc))
        | (go_at_call 9; refine (turnRing_any Ay cy y _ HSya.out hyn hyc hym).mono ?_; rintro e wb ⟨Au, cu, u, HLu, rfl, hob, hbb⟩; have HBb := Lib.hid (HBa.out.trans (hbb.mono HBa.out.size)); have HPb := Lib.hid (HPa.out.next hbb); have HQb := Lib.hid HPb.out.c20; have HSlb := Lib.hid (HSla.out.belowAll hbb); have HSyb := Lib.hid (HSya.out.belowAll hbb); have HOb := Lib.hid (hob.sees elPoint); have HUC := Lib.hid (And.intro hob.cap hob.capLe); have hun : u.length ≤ 274877906944 := (by rw [HLu.out, trn_len]; exact hyn))
        | (go_at_call 15; refine (isInside_is a0 Ay cy y px py _ (HE.out.all HBd.out) HSyd.out hyn hyc hym v HV.out).mono ?_; rintro e wa ⟨rfl, hba⟩; have HBa := Lib.hid (HBd.out.trans (hba.mono HBd.out.size)); have HPa := Lib.hid (HPd.out.next hba); have HQa := Lib.hid HPa.out.c20; have HSla := Lib.hid (HSld.out.belowAll hba); have HSya := Lib.hid (HSyd.out.belowAll hba))
        | fail)
      all_goals
        go_wp2_with fail
        go_meet
        exact ⟨by simp, HBc, HSlc, HSyc, HPc⟩
    case rest =>
    obtain ⟨rfl, HB', HSl', HSy', HP'⟩ := hcut
    clear HB HSl HSy HP HBd HPd HSyd HSld hq HQd HVu; have HB := HB'; have HSl := HSl'; have HSy := HSy'; have HP := HP'; clear HB' HSl' HSy' HP'
    obtain ⟨k0, k1⟩ := HP.out.c20
    go_upto_region 14 with fail
    go_cut [86] (fun s wx => s = .bool false ∧ Hid (Below w.heap.size w wx) ∧ Hid (SeesE 2 encPoint wx wx.heap.size Al l))
    case first =>
      cases v
      · go_wp2_with (first
          | (go_at_call 15; refine (isInside_is a0 Ay cy y px py _ (HE.out.all HB.out) HSy.out hyn hyc hym false HV.out).mono ?_; rintro e w9 ⟨rfl, hb9⟩; have HP := Lib.hid (HP.out.next hb9); obtain ⟨q0, q1⟩ := HP.out.c20; have HB := Lib.hid (HB.out.trans (hb9.mono HB.out.size)); have HSl := Lib.hid (HSl.out.belowAll hb9); have HSy := Lib.hid (HSy.out.belowAll hb9); clear hb9)
          | fail)
        go_meet
        exact ⟨rfl, HB, HSl⟩
      · have HPP : Hid (isP px py = true) := Lib.hid (inV_isP HV.out)
        go_wp2_with (first
          | (go_at_call 15; refine (isInside_is a0 Ay cy y px py _ (HE.out.all HB.out) HSy.out hyn hyc hym true HV.out).mono ?_; rintro e w9 ⟨rfl, hb9⟩; have HP := Lib.hid (HP.out.next hb9); obtain ⟨q0, q1⟩ := HP.out.c20; have HB := Lib.hid (HB.out.trans (hb9.mono HB.out.size)); have HSl := Lib.hid (HSl.out.belowAll hb9); have HSy := Lib.hid (HSy.out.belowAll hb9); clear hb9)
          | (go_at_call 16; refine (isPoint_is px py true _ HPP.out).mono ?_; rintro e w9 ⟨rfl, hb9⟩; have HB := Lib.hid (HB.out.trans (hb9.mono HB.out.size)); have HSl := Lib.hid (HSl.out.belowAll hb9); have HSy := Lib.hid (HSy.out.belowAll hb9); clear hb9)
          | fail)
        go_meet
        exact ⟨rfl, HB, HSl⟩
    case rest =>
    obtain ⟨rfl, HB', HSl'⟩ := hcut
    clear HB HSl HSy HP HV k0 k1; have HB := HB'; have HSl := HSl'; clear HB' HSl'
    have hl0 : (0 : Int) < (l.length : Int) := by omega
    have hl0' : ¬ ((l.length : Int) = 0) := by omega
    cases z
    · have HRL : Hid (((rsV l).length : Int) = 0) := Lib.hid (by unfold rsV; rw [HZ.out]; rfl)
      go_wp2
      go_loopw [10] (fun i wr => i = .int .i64 0 ∧ Hid (Below w.heap.size w wr) ∧ Hid (SeesE 2 encPoint wr wr.heap.size Al l)) (fun _ _ => 0)
      case atStart => exact ⟨rfl, HB, HSl⟩
      case round =>
        obtain ⟨rfl, HB', HSl'⟩ := hrel
        clear HB HSl; have HB := HB'; have HSl := HSl'; clear HB' HSl'
        go_wp2_with (first
          | (go_at_call 17; refine (ringSegments_any a0 Al cl l _ (HE.out.all HB.out) HSl.out hln hlc hlm).mono ?_; rintro e w9 ⟨As, cs, S, HLs, rfl, ho9, hb9⟩; have HB := Lib.hid (HB.out.trans (hb9.mono HB.out.size)); have HSl := Lib.hid (HSl.out.belowAll hb9); clear hb9; have hsi : (S.length : Int) = 0 := (by rw [HLs.out]; exact HRL.out))
          | (go_at_call 10; with_reducible refine (isRing_is a0 Al cl l _ (HE.out.all HB.out) HSl.out hln hlc hlm false HZ.out).mono ?_; rintro e w9 ⟨rfl, hb9⟩; have HB := Lib.hid (HB.out.trans (hb9.mono HB.out.size)); have HSl := Lib.hid (HSl.out.belowAll hb9); clear hb9)
          | fail)
        go_ret
        exact ⟨rfl, HB.out⟩
    · have HRL : Hid (((rsV l).length : Int) = (l.length : Int)) := Lib.hid (by unfold rsV; rw [HZ.out, if_pos rfl, rgS_len])
      go_wp2
      go_loopw [10] (fun i wr => ∃ j : Nat, j ≤ l.length ∧ i = .int .i64 (j : Int) ∧ Hid (Below w.heap.size w wr) ∧ Hid (SeesE 2 encPoint wr wr.heap.size Al l)) (fun i _ => l.length - (intOf i).toNat)
      case atStart => exact ⟨0, Nat.zero_le _, rfl, HB, HSl⟩
      case round =>
        obtain ⟨j, hj, rfl, HB', HSl'⟩ := hrel
        clear HB HSl; have HB := HB'; have HSl := HSl'; clear HB' HSl'
        by_cases hlt : j < l.length
        · have hlt' : (j : Int) < (l.length : Int) := by omega
          obtain ⟨⟨x0, y0⟩, hx⟩ : ∃ p, l[j]? = some p := ⟨_, List.getElem?_eq_getElem hlt⟩
          have HI : Hid (inV l (x0, y0) = true) := Lib.hid (inV_corner HZ.out hx)
          have HX := Lib.hid hx; clear hx
          obtain ⟨b, off, rfl, hbl, -⟩ := HSl.out j _ HX.out
          go_wp2_with (first
            | (go_at_call 10; with_reducible refine (isRing_is a0 _ cl l _ (HE.out.all HB.out) HSl.out hln hlc hlm true HZ.out).mono ?_; rintro e w9 ⟨rfl, hb9⟩; have HB := Lib.hid (HB.out.trans (hb9.mono HB.out.size)); have HSl := Lib.hid (HSl.out.belowAll hb9); clear hb9; obtain ⟨q0, q1⟩ := cellsPoint HSl.out HX.out)
            | (go_at_call 15; refine (isInside_is a0 _ cl l x0 y0 _ (HE.out.all HB.out) HSl.out hln hlc hlm true HI.out).mono ?_; rintro e w9 ⟨rfl, hb9⟩; have HB := Lib.hid (HB.out.trans (hb9.mono HB.out.size)); have HSl := Lib.hid (HSl.out.belowAll hb9); clear hb9)
            | fail)
          go_roundw
          case rel => exact ⟨j + 1, by omega, by go_num, HB, HSl⟩
          case measure => simp [intOf]; omega
        · have hlt' : ¬ (j : Int) < (l.length : Int) := by omega
          go_wp2_with (first
            | (go_at_call 17; refine (ringSegments_any a0 Al cl l _ (HE.out.all HB.out) HSl.out hln hlc hlm).mono ?_; rintro e w9 ⟨As, cs, S, HLs, rfl, ho9, hb9⟩; have HB := Lib.hid (HB.out.trans (hb9.mono HB.out.size)); have HSl := Lib.hid (HSl.out.belowAll hb9); clear hb9; have hsi : (S.length : Int) = (l.length : Int) := (by rw [HLs.out]; exact HRL.out))
            | (go_at_call 10; with_reducible refine (isRing_is a0 Al cl l _ (HE.out.all HB.out) HSl.out hln hlc hlm true HZ.out).mono ?_; rintro e w9 ⟨rfl, hb9⟩; have HB := Lib.hid (HB.out.trans (hb9.mono HB.out.size)); have HSl := Lib.hid (HSl.out.belowAll hb9); clear hb9)
            | fail)
          go_ret
          exact ⟨rfl, HB.out⟩
theorem law_FnRings_laid (w : World) (A : Option Addr) (len cap : Nat) (z : List Int) (hrow : IsRow .u8 w A len cap z) (hL : laidMet Tryz.prog Rows.fnRingsRow.laid w) :
    Calls Tryz.prog 3 #[.slice A len cap] w fun e w' => e = .returned (.bool true) ∧ Below w.heap.size w w' := by
  obtain ⟨a0, hE⟩ := errAt_of hL
  exact law_FnRings w a0 hE A len cap (code_of_row hrow)
end Go.Proofs.YtbnjaaegbmhopaaGreatDoor
end
section
namespace Go.Proofs.YtbnjaaegbmhopaaGreatDoor.fnRings
open Go.ChangeShapes Go.WideShapes Go.ChangeAt Go.WideMaps Go.WideElems Go.RowKit
open Go.ChangeMaps (open_string shut_string)
set_option linter.unusedVariables false

theorem own : ownKnob Tryz.prog.godebug = none := by kernel_rfl
theorem laidOut : laidOutB Tryz.prog = true := by kernel_rfl

/-- What the package-level variables hold behind the program's own initialisers meets the row's condition. -/
theorem door_met (os : Os) (args : Array Value) : laidMetH Tryz.prog Rows.fnRingsRow.laid ((World.doorLaid Tryz.prog 28 os).forCall (fun _ _ => 0) ⟨#[], args, []⟩).memory :=
  laidMetH_of_parts3 (fuel := 8) (laidMet_of_run' 8 (by kernel_rfl) (by kernel_rfl)) (by kernel_rfl) (by kernel_rfl)

set_option maxRecDepth 100000 in
theorem lifted (os : Os) (started : os.Started) (H : Type) (enc : TypeId × Value → H) :
    ReturnsInHanded {} Tryz.checked os 3 .any (fun w args => (Rows.fnRingsSpec.pre enc Tryz.prog Tryz.f3 [] false w args ∧ laidMetH Tryz.prog Rows.fnRingsRow.laid w) ∧ sizedMet enc Tryz.prog Tryz.f3 (OpenSpec.ofChange Rows.fnRingsSpec) false w args)
      (Rows.fnRingsSpec.post enc Tryz.prog Tryz.f3 false true false false) := by
  refine returnsInHanded_of_change_and (C := Tryz.checked) (X := fun w _ => laidMetH Tryz.prog Rows.fnRingsRow.laid w) (fun _ _ _ hh h => h.of_heap hh) own started (by kernel_rfl) Tryz.func3
    (ChangeSpec.witness_shaped (enc := enc) (C := Tryz.checked) (os := os) (X := fun w _ => laidMetH Tryz.prog Rows.fnRingsRow.laid w) false (World.doorLaid Tryz.prog 28 os) #[.slice none 0 0] 8 rfl (World.shaped_of_RefB (by kernel_rfl) (by kernel_rfl)) (by kernel_rfl) (by kernel_rfl) (by kernel_rfl) (door_met os _)) ?_
  intro W base args ds gs before hval0 hW _ hsz0 hL0 _
  have hsz : (DataW.weightsEach Tryz.prog (Tryz.f3.params.toList ++ Rows.fnRingsSpec.plain.varTypes Tryz.prog) (ds ++ gs)).all (· ≤ reachBytes) = true := hsz0
  clear hsz0
  have hL : laidMet Tryz.prog Rows.fnRingsRow.laid W := by rw [MakeChecks.laidMetH_plain _ _ _ (by kernel_rfl)] at hL0; exact hL0
  have hval : ∀ (j : Nat) t v, Tryz.f3.params[j]? = some t → args[j]? = some v → Value.okWide Tryz.prog W .any base t v := hval0
  have hW' := hW
  obtain ⟨p, q, hA0, hV, rfl, hfz, hnd⟩ := hW
  have hA : DataW.TrodAll enc Tryz.prog W 0 (fun _ => true) true Tryz.f3.params.toList args.toList ds p := hA0
  rw [Tryz.params3] at hA hval hsz
  obtain ⟨v0, vs0, d0, ds0, p0, q0, hargs, rfl, rfl, h0, r0⟩ := trodAll_cons hA
  obtain ⟨rfl, rfl, rfl⟩ := trodAll_nil r0
  obtain rfl : args = #[v0] := by cases args; simp_all
  obtain ⟨a0, hv0⟩ := errVar_of hL
  have hV1 : DataW.TrodVars enc Tryz.prog W (fun _ => true) ["loop.example/g03005/impl.errNoRing"] gs q := hV
  obtain ⟨rfl, rfl⟩ := hV1.unique (errVars enc hv0 _)
  obtain ⟨a0, len0, cap0, rfl⟩ := okWide_slice Tryz.underlying22 (hval 0 22 v0 rfl rfl)
  have k0 := h0
  have lt0 : ∀ x ∈ p0, x.block < W.heap.size := by obtain ⟨m, hm⟩ := k0; exact DataW.trod_lt m _ _ _ hm
  obtain ⟨z0, w0⟩ : ∃ zs, IsRow .u8 W a0 len0 cap0 zs := by
    obtain ⟨fuel, hf⟩ := h0
    rcases open_ints Tryz.underlying22 Tryz.underlying5 (by kernel_rfl) hf with ⟨hcs, _⟩ | ⟨x, l, c, zs, hcs, _, hl, hm, hz, _, hcell, hwz⟩
    · simp [Value.cells] at hcs
      obtain ⟨rfl, rfl, rfl⟩ := hcs
      exact ⟨[], .inl ⟨rfl, rfl, rfl, rfl⟩⟩
    · simp [Value.cells] at hcs
      obtain ⟨rfl, rfl, rfl⟩ := hcs
      exact ⟨zs, .inr ⟨_, rfl, hl, hm, by simpa using hz, hcell, hwz⟩⟩
  clear hA0 hval0
  refine (law_FnRings_laid W a0 len0 cap0 z0 w0 hL).mono fun e W' ⟨he, bel⟩ => ?_
  subst he
  exact ⟨_, rfl, _, _, _, [], _, _, hW', trodAll_mk1 (shut_bool Tryz.underlying4 _), (trodAll_cons_mk (Below.trod laidOut (by kernel_rfl) (of_decide_eq_true (by kernel_rfl)) k0 bel lt0) trodAll_mk0), errVars enc (errVar_below hv0 bel) _, bel.frame _, fun h => by cases h⟩

theorem over : Rows.fnRingsRow.holds Tryz.pinned (OpenSpec.ofChange Rows.fnRingsSpec) :=
  OpenClaim.holds_of_wide 3 Tryz.f3 rfl rfl rfl rfl rfl rfl rfl ⟨rfl, rfl, rfl, rfl, rfl⟩ rfl rfl rfl rfl rfl (by kernel_rfl) Tryz.func3 (by kernel_rfl)
    (of_decide_eq_true (by kernel_rfl)) (by unfold Func.isWrapper; first | (rw [if_pos (by decide +kernel)]; kernel_rfl) | (rw [if_neg (by decide +kernel)]; exact ⟨rfl, rfl⟩))
    (fun os started H enc _ => lifted os started H enc)

/-- THE STATEMENT. -/
theorem proved : Rows.FnRingsCardSaid :=
  Claim7.holds_tied_plain_at .later [] [.sentinel] true (true, "4fd9553954a1f4fcd77f7bf2d22849ecbae6f39362e0ed4adff318da18115798") true
    over (fun _ h => by cases h) (by kernel_rfl) (fun _ h => by cases h) fnRings_row_tie rfl ⟨rfl, rfl⟩ (by kernel_rfl) rfl
    (fun f fn hf hfn => by
      obtain rfl : f = 3 := Option.some.inj ((show Tryz.prog.funcNamed "loop.example/g03005/laws.FnRings" = some 3 by kernel_rfl).symm.trans hf) |>.symm
      obtain rfl : fn = Tryz.f3 := (Option.some.inj (Tryz.func3.symm.trans hfn)).symm
      exact ⟨by kernel_rfl, fun j t ht => by
        rw [Tryz.params3] at ht
        have hm : t ∈ [22] := by simpa using Array.mem_of_getElem? ht
        have hall : ([22].all fun u => !Tryz.prog.wantsStandIn u) = true := by kernel_rfl
        exact (show Tryz.prog.wantsStandIn t = false by simpa using List.all_eq_true.1 hall t hm)⟩)
    (by kernel_rfl)
#print axioms proved
end Go.Proofs.YtbnjaaegbmhopaaGreatDoor.fnRings
end
