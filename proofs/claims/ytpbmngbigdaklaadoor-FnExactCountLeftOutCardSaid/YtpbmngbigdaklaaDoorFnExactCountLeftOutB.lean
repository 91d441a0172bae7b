/- The law FnExactCountLeftOut holds: at every slice of points and every number the program gives the model's count of points left out, and writes into no argument; the package variable errNotSimpler holds what its own initialiser lays. -/
import Derived.Test.YtpbmngbigdaklaaDoorLine
import Derived.Test.YtpbmngbigdaklaaDoorHelpE
import Derived.Test.YtpbmngbigdaklaaDoorLineS1
import Derived.Test.YtpbmngbigdaklaaDoorLineJ
import Derived.Test.YtpbmngbigdaklaaDoorSimpB
import Derived.Test.YtpbmngbigdaklaaDoorSimpI
import Derived.Test.YtpbmngbigdaklaaDoorOneVar
import Derived.Deep.RegionHeld3
import Derived.Test.YtpbmngbigdaklaaDoorTabs
import Derived.Deep.DeepCutAuto
import Derived.WalkLawsBesides
import Derived.Defers
import Derived.Recover
import Derived.Laws.Cover3
import Derived.Test.YtpbmngbigdaklaaDoorRows
import Derived.Stop.LaidErr
import Derived.LaidMore
import Derived.Test.YtpbmngbigdaklaaDoorMarkF
import Derived.Test.YtpbmngbigdaklaaDoorFeatL
import Derived.Test.YtpbmngbigdaklaaDoorPoint
import Derived.Lib.SmallJoins
import Derived.OpenShut
import Derived.ChangeArms
import Derived.ChangeSame
import Derived.Test.YtpbmngbigdaklaaDoorHelpM
import Derived.Test.YtpbmngbigdaklaaDoorTie
import Derived.Test.YtpbmngbigdaklaaDoorCards
import Derived.WalkKit
import Derived.ProofKit
import Derived.ShutString
import Derived.SizedLaws
import Derived.Stop.Joined
import Derived.SevenTiedAt
import Derived.Below
section
/- Lines: EqualLines and TurnLine, of package impl and of the model. -/
namespace Go.Proofs.YtpbmngbigdaklaaDoor
open Go.ChangeShapes Go.WideShapes Go.ChangeAt Go.RowKit
set_option linter.unusedVariables false

/-- Equal so far. -/
theorem eqPre_step {α : Type} {l m : List α} {j : Nat} (h : l.take j = m.take j) (hx : l[j]? = m[j]?) : l.take (j + 1) = m.take (j + 1) := by
  rw [List.take_add_one, List.take_add_one, h, hx]
theorem ne_of_get {α : Type} {l m : List α} {j : Nat} (h : l[j]? ≠ m[j]?) : l ≠ m := fun e => h (by rw [e])
theorem PtV_ne {a b c d : Int} (h : ¬ (a = c ∧ b = d)) : ((a, b) : Int × Int) ≠ (c, d) := fun e => h ⟨congrArg Prod.fst e, congrArg Prod.snd e⟩
def StRel (l : List (Int × Int)) (w : World) (v i : Value) (wr : World) : Prop :=
  ∃ (A : Option Addr) (c : Nat) (L : List (Int × Int)) (r : Nat), r ≤ l.length ∧ v = .slice A L.length c ∧ i = .int .i64 ((r : Int) - 1) ∧ Hid (L = l.reverse.take (l.length - r)) ∧ L.length = l.length - r ∧ OwnE 2 encPoint wr w.heap.size 33 (.slice A L.length c) L ∧ Below w.heap.size w wr
theorem st_step {l L L2 : List (Int × Int)} {m : Nat} {x : Int × Int} (hm : m + 1 ≤ l.length) (hL : L = l.reverse.take (l.length - (m + 1))) (h : L2 = L ++ [x]) (hx : l[m]? = some x) : L2 = l.reverse.take (l.length - m) := by
  have e : l.length - m = (l.length - (m + 1)) + 1 := by omega
  rw [h, hL, e, List.take_add_one, List.getElem?_reverse (by omega)]
  have e2 : l.length - 1 - (l.length - (m + 1)) = m := by omega
  rw [e2, hx]; rfl
end Go.Proofs.YtpbmngbigdaklaaDoor
end
section
/- Lines: SegmentsOf and LineSteps of the model. -/
namespace Go.Proofs.YtpbmngbigdaklaaDoor
open Go.ChangeShapes Go.WideShapes Go.ChangeAt Go.RowKit
set_option linter.unusedVariables false

theorem keepA {w : World} {p : Addr} {v : Value} (h : w.cell? p = some v) (o : Obj) : (w.alloc o).cell? p = some v :=
  (World.cell?_of_block (Below.heap_alloc _ _ _ (World.block_lt_of_cell? w p h))).trans h
theorem sizeA (w : World) (o : Obj) : w.heap.size ≤ (w.alloc o).heap.size := by simp
/-- append of one segment, as one step of a region that draws its order. -/
theorem stepSegment (w : World) {ops : Array Oper} {o : Oper} {a : Act} {K : Act → World → Prop} {Q : Exit → Act → World → Prop} {E : Prop} (hgd : o.guard = none) (s x : Operand)
    (ho : o.op = .call { callee := .builtin .append, args := #[s, x], argTypes := #[53, 53] })
    (base : Nat) (v : Value) (l : List (Int × Int × Int × Int)) (hv : a.eval s = v) (hown : OwnE 4 encSegment w base 35 v l)
    (B : Nat) (A : Option Addr) (m c : Nat) (l2 : List (Int × Int × Int × Int)) (hx : a.eval x = .slice A m c) (hm : m = l2.length) (hs : SeesE 4 encSegment w B A l2) (h63 : l.length + l2.length ≤ 1099511627776) (hbase : base ≤ w.heap.size)
    (h : ∀ A' c' L w', Hid (L = l ++ l2) → L.length ≤ l.length + l2.length → l.length + l2.length ≤ L.length → OwnE 4 encSegment w' base 35 (.slice A' L.length c') L → Below base w w' → K (a.put o.dst (.slice A' L.length c')) w') :
    if Region.wanted o (yielded ops a.tmps) = true then Oper.wp Tryd.prog o a w K Q else E := by
  have hw : Region.wanted o (yielded ops a.tmps) = true := by simp [Region.wanted, hgd]
  rw [if_pos hw]
  obtain ⟨i, hi, hz, h1, h2⟩ := info_parts infoSegment
  exact wp_appE w elSegment s x _ ho _ i _ 32 Tryd.underlying53 hi hz h1 h2 rfl base v l hv hown B A m c l2 hx hm hs h63 (by decide) hbase h
def SoRel (l : List (Int × Int)) (w : World) (v i : Value) (wr : World) : Prop :=
  ∃ (A : Option Addr) (c : Nat) (L : List (Int × Int × Int × Int)) (j : Nat), v = .slice A L.length c ∧ i = .int .i64 ((j : Int) + 1) ∧ (isLn l = false → j = 0) ∧ (j = 0 ∨ j ≤ (jts l).length) ∧ Hid (L = (sgV l).take j) ∧ L.length = j ∧ OwnE 4 encSegment wr w.heap.size 35 (.slice A L.length c) L ∧ Below w.heap.size w wr
theorem so_step {S L L2 : List (Int × Int × Int × Int)} {j : Nat} {x : Int × Int × Int × Int} (hL : L = S.take j) (h : L2 = L ++ [x]) (hx : S[j]? = some x) : L2 = S.take (j + 1) := by
  rw [h, hL, List.take_add_one, hx]; rfl
theorem stpV_step {L : List (Int × Int × Int × Int)} {j : Nat} {x : Int × Int × Int × Int} (hx : L[j]? = some x) : stpV (L.take j) + stS x = stpV (L.take (j + 1)) := by
  rw [List.take_add_one, hx]; exact (stpV_snoc _ _).symm
end Go.Proofs.YtpbmngbigdaklaaDoor
end
section
/- Simpler lines: SimplifyLine of the model. -/
namespace Go.Proofs.YtpbmngbigdaklaaDoor
open Go.ChangeShapes Go.WideShapes Go.ChangeAt Go.RowKit
set_option linter.unusedVariables false

theorem allPt_ln {l : List (Int × Int)} (h : isLn l = true) : AllPt l := fun j hj => by
  rw [isLn_pts] at h
  simp only [Bool.and_eq_true, decide_eq_true_eq] at h
  have h1 := h.1 j hj
  unfold ptOk at h1
  rw [List.getElem?_eq_getElem hj] at h1
  rw [ptA_get (List.getElem?_eq_getElem hj)]
  simp only [Bool.and_eq_true] at h1
  exact h1.1
/-- The flags of the ends. -/
def endB (n j : Nat) : Bool := decide (j = 0) || decide (j + 1 = n)
def endsTo (n m : Nat) : List Bool := (List.range m).map (endB n)
theorem ends_succ (n m : Nat) : endsTo n (m + 1) = endsTo n m ++ [endB n m] := by
  unfold endsTo; rw [List.range_succ, List.map_append]; rfl
theorem ends_get {n j : Nat} (h : j < n) : (endsTo n n)[j]? = some (endB n j) := by
  unfold endsTo; rw [List.getElem?_map, List.getElem?_range h]; rfl
theorem keep_flag (l : List (Int × Int)) (n : Int) (j : Nat) : (endB l.length j || kB l n 0 (l.length - 1) j) = keepB l n j := by
  rw [Bool.eq_iff_iff, keepB_iff]
  simp only [endB, Bool.or_eq_true, decide_eq_true_eq, kB_iff, or_assoc]
theorem simp_step {l L L' : List (Int × Int)} {f : Nat → Bool} {j : Nat} {p : Int × Int} (hL : L = (idxTo f j).map (ptA l)) (hp : l[j]? = some p) (hf : f j = true) (h : L' = L ++ [p]) : L' = (idxTo f (j + 1)).map (ptA l) := by
  rw [h, hL, idx_succ, if_pos hf, List.map_append, List.map_cons, List.map_nil, ptA_get hp]
theorem simp_skip {l L : List (Int × Int)} {f : Nat → Bool} {j : Nat} (hL : L = (idxTo f j).map (ptA l)) (hf : f j = false) : L = (idxTo f (j + 1)).map (ptA l) := by
  rw [hL, idx_succ, if_neg (by rw [hf]; decide), List.append_nil]
theorem infoBool : (Tryd.prog.info? 4).map (fun i => (i.zero, i.size, i.bytes)) = some (some (.bool false), 1, 1) := by kernel_rfl
theorem appBool (w : World) {ops : Array Oper} {rest : List Oper} {o : Oper} {a : Act} {Q : Exit → Act → World → Prop} (hgd : o.guard = none) (s x : Operand)
    (ho : o.op = .call { callee := .builtin .append, args := #[s, x], argTypes := #[61, 61] })
    (base : Nat) (v : Value) (l : List Bool) (hv : a.eval s = v) (hown : OwnE 1 encB w base 4 v l)
    (B : Nat) (A : Option Addr) (m c : Nat) (l2 : List Bool) (hx : a.eval x = .slice A m c) (hm : m = l2.length) (hs : SeesE 1 encB w B A l2) (h63 : l.length + l2.length ≤ 1099511627776) (hbase : base ≤ w.heap.size)
    (h : ∀ A' c' L w', Hid (L = l ++ l2) → L.length ≤ l.length + l2.length → l.length + l2.length ≤ L.length → OwnE 1 encB w' base 4 (.slice A' L.length c') L → Below base w w' → wpList Tryd.prog ops Q rest (a.put o.dst (.slice A' L.length c')) w') :
    wpList Tryd.prog ops Q (o :: rest) a w := by
  obtain ⟨i, hi, hz, h1, h2⟩ := info_parts infoBool
  exact wpList_appE w elB hgd s x _ ho _ i _ 1 Tryd.underlying61 hi hz h1 h2 rfl base v l hv hown B A m c l2 hx hm hs h63 (by decide) hbase h
def KpRel (n : Nat) (w : World) (v i : Value) (wr : World) : Prop :=
  ∃ (A : Option Addr) (c : Nat) (K : List Bool) (j : Nat), v = .slice A K.length c ∧ i = .int .i64 (j : Int) ∧ j ≤ n ∧ Hid (K.length = j) ∧ Hid (K = endsTo n j) ∧ Hid (OwnE 1 encB wr w.heap.size 4 (.slice A K.length c) K) ∧ Hid (Below w.heap.size w wr)
def OuRel (l : List (Int × Int)) (n : Int) (w : World) (g ck : Nat) (K : List Bool) (v i : Value) (wr : World) : Prop :=
  ∃ (A : Option Addr) (c : Nat) (L : List (Int × Int)) (j : Nat), v = .slice A L.length c ∧ i = .int .i64 (j : Int) ∧ j ≤ l.length ∧ L.length ≤ j ∧ Hid (L = (idxTo (keepB l n) j).map (ptA l)) ∧ Hid (OwnE 2 encPoint wr w.heap.size 33 (.slice A L.length c) L) ∧ Hid (Below w.heap.size w wr)
set_option maxRecDepth 100000 in
set_option maxHeartbeats 8000000 in
theorem sSimplifyLine_any (A : Option Addr) (c : Nat) (l : List (Int × Int)) (n : Int) (w : World) (hs : SeesE 2 encPoint w w.heap.size A l) (hl : l.length ≤ 1099511627776) :
    Calls Tryd.prog 16 #[.slice A l.length c, .int .i64 n] w (GivesE 2 encPoint 33 (simpV l n) w) := by
  have HS := Lib.hid hs; clear hs
  go_enter Tryd.func16, Tryd.ntmps16
  cases hi : isLn l
  · have HV : Hid (simpV l n = l) := Lib.hid (by unfold simpV; rw [if_neg (by rw [hi]; simp)])
    go_wp2_with (first
      | (go_at_call 39; refine (sIsLine_is A c l _ HS.out hl _ hi).mono ?_; rintro e w1 ⟨rfl, hb1⟩; have HS1 := Lib.hid (HS.out.belowAll hb1))
      | (at_builtin; refine appPoint _ rfl _ _ rfl w.heap.size _ [] rfl (OwnE.lit _ w.heap.size 33 hb1.size) _ A _ c l rfl rfl (HS1.out.alloc (Nat.le_refl _) _) (by simpa using hl) (Nat.le_trans hb1.size (sizeA _ _)) ?_; intro A4 c4 L4 w4 hL4 h1 h2 ho4 hb4))
    go_ret
    exact ⟨_, _, L4, Lib.hid (by rw [hL4.out, HV.out]; rfl), rfl, ho4, (hb1.trans ((Below.refl _ _).alloc hb1.size _)).trans hb4⟩
  cases hn : inB n 0 200
  · have HV : Hid (simpV l n = l) := Lib.hid (by unfold simpV; rw [if_neg (by rw [hn]; simp)])
    go_wp2_with (first
      | (go_at_call 39; refine (sIsLine_is A c l _ HS.out hl _ hi).mono ?_; rintro e w1 ⟨rfl, hb1⟩; have HS1 := Lib.hid (HS.out.belowAll hb1))
      | (go_at_call 40; refine (l1in_is _ _ _ _ _ hn).mono ?_; rintro e w2 ⟨rfl, rfl⟩)
      | (at_builtin; refine appPoint _ rfl _ _ rfl w.heap.size _ [] rfl (OwnE.lit _ w.heap.size 33 hb1.size) _ A _ c l rfl rfl (HS1.out.alloc (Nat.le_refl _) _) (by simpa using hl) (Nat.le_trans hb1.size (sizeA _ _)) ?_; intro A4 c4 L4 w4 hL4 h1 h2 ho4 hb4))
    go_ret
    exact ⟨_, _, L4, Lib.hid (by rw [hL4.out, HV.out]; rfl), rfl, ho4, (hb1.trans ((Below.refl _ _).alloc hb1.size _)).trans hb4⟩
  have HV : Hid (simpV l n = simpL l n) := Lib.hid (by unfold simpV; rw [if_pos ⟨hi, hn⟩])
  have hln := isLn_yes hi
  have hp := allPt_ln hi
  have hnb : 0 ≤ n ∧ n ≤ 200 := by simp only [inB, decide_eq_true_eq] at hn; exact hn
  have h2l := hln.1; have h10 := hln.2.1
  have HP := Lib.hid hp
  clear hln hp
  go_wp2_with (first
      | (go_at_call 39; refine (sIsLine_is A c l _ HS.out hl _ hi).mono ?_; rintro e w1 ⟨rfl, hb1⟩; have HS1 := Lib.hid (HS.out.belowAll hb1); have HB1 := Lib.hid hb1)
      | (go_at_call 40; refine (l1in_is _ _ _ _ _ hn).mono ?_; rintro e w2 ⟨rfl, rfl⟩))
  clear hb1
  go_loopw [5, 6] (fun v i wr => KpRel l.length w1 v i wr) (fun _ i _ => l.length - (intOf i).toNat)
  case atStart => exact ⟨_, _, [], 0, rfl, rfl, Nat.zero_le _, Lib.hid rfl, Lib.hid rfl, Lib.hid (OwnE.lit _ _ _ (Nat.le_refl _)), Lib.hid ((Below.refl _ _).alloc (Nat.le_refl _) _)⟩
  case round =>
    obtain ⟨A2, c2, K, j, rfl, rfl, hj, hKj, HK, HO, HB⟩ := hrel
    by_cases hlt : j < l.length
    · have hlt' : (j : Int) < (l.length : Int) := by omega
      have hsz := HB.out.size
      by_cases h0 : j = 0
      · have h0' : (j : Int) = 0 := by omega
        have hE : Hid (endB l.length j = true) := Lib.hid (by simp [endB, h0])
        go_wp2_with (at_builtin; refine appBool _ rfl _ _ rfl w1.heap.size _ K rfl (HO.out.alloc _) (wr.heap.size + 1) _ 1 _ [true] rfl rfl (seesE_new elB wr (true) _ _ _ (Nat.lt_succ_self _) rfl) (by have := hKj.out; simp; omega) (by simp; omega) ?_; intro A4 c4 L4 w4 hL4 h1 h2 ho4 hb4)
        go_roundw
        case rel => exact ⟨A4, c4, L4, j + 1, rfl, by go_num, by omega, Lib.hid (by have := hKj.out; simp at h1 h2; omega), Lib.hid (by rw [hL4.out, HK.out, ends_succ, hE.out]), Lib.hid ho4, Lib.hid (HB.out.trans (((Below.refl _ _).alloc hsz _).trans hb4))⟩
        case measure => simp [intOf]; omega
      · have h0' : ¬ (j : Int) = 0 := by omega
        have hE : Hid (endB l.length j = ((j : Int) == 0 || (j : Int) + 1 == (l.length : Int))) := Lib.hid (by rw [Bool.eq_iff_iff]; simp [endB]; omega)
        go_wp2_with (at_builtin; refine appBool _ rfl _ _ rfl w1.heap.size _ K rfl (HO.out.alloc _) (wr.heap.size + 1) _ 1 _ [((j : Int) == 0 || (j : Int) + 1 == (l.length : Int))] rfl rfl (seesE_new elB wr (((j : Int) == 0 || (j : Int) + 1 == (l.length : Int))) _ _ _ (Nat.lt_succ_self _) rfl) (by have := hKj.out; simp; omega) (by simp; omega) ?_; intro A4 c4 L4 w4 hL4 h1 h2 ho4 hb4)
        go_roundw
        case rel => exact ⟨A4, c4, L4, j + 1, rfl, by go_num, by omega, Lib.hid (by have := hKj.out; simp at h1 h2; omega), Lib.hid (by rw [hL4.out, HK.out, ends_succ, hE.out]), Lib.hid ho4, Lib.hid (HB.out.trans (((Below.refl _ _).alloc hsz _).trans hb4))⟩
        case measure => simp [intOf]; omega
    · have hjl : K.length = l.length := by have := hKj.out; omega
      have hlt' : ¬ (j : Int) < (l.length : Int) := by omega
      obtain ⟨g, rfl, hg1, -, hrow⟩ := HO.out.row (by omega)
      have HR := Lib.hid hrow; clear hrow
      have HS2 := Lib.hid (HS1.out.below HB.out)
      have hg2 := HR.out.lt
      have e1 : (l.length : Int) - 1 = ((l.length - 1 : Nat) : Int) := by omega
      have hWo : w.heap.size ≤ g := Nat.le_trans HB1.out.size hg1
      go_wp2_with fail
      refine (sBetween_any l n A c g c2 HP.out h10 hnb (l.length - 1) 0 (l.length - 1) K _ (by omega) (by omega) (by omega) hjl (HS2.out.mono hg1) HR.out).mono ?_
      rintro e w2 ⟨K1, rfl, hf1, hr1, hw1⟩
      have HF1 := Lib.hid hf1; have HR1 := Lib.hid hr1
      have HS3 := Lib.hid (HS2.out.below (hw1.below hg1 HB.out.size))
      have HB2 := Lib.hid (HB1.out.trans ((HB.out.mono HB1.out.size).trans (hw1.below hWo (Nat.le_trans HB1.out.size HB.out.size))))
      have HK1 : Hid (∀ j, j < l.length → K1[j]? = some (keepB l n j)) := Lib.hid fun q hj => by rw [← keep_flag]; exact hf1.2 q _ (by rw [HK.out, show j = l.length by omega]; exact ends_get hj)
      have hgw2 : g < w2.heap.size := hr1.lt
      clear hf1 hr1 hw1
      go_wp2
      go_loopw [7, 8] (fun v i wr => OuRel l n w2 g c2 K1 v i wr) (fun _ i _ => l.length - (intOf i).toNat)
      case atStart => exact ⟨_, _, [], 0, rfl, rfl, Nat.zero_le _, Nat.zero_le _, Lib.hid rfl, Lib.hid (OwnE.lit _ _ _ (Nat.le_refl _)), Lib.hid ((Below.refl _ _).alloc (Nat.le_refl _) _)⟩
      case round =>
        obtain ⟨A3, c3, L, i, rfl, rfl, hi', hLi, HL, HO3, HB3⟩ := hrel
        by_cases hil : i < l.length
        · have hil' : (i : Int) < (l.length : Int) := by omega
          have HR3 := Lib.hid (HR1.out.below HB3.out hgw2)
          have kc := HR3.out.cell elB (HK1.out i hil) (k := 0) rfl
          simp only [Nat.mul_one, Nat.add_zero] at kc
          cases hk : keepB l n i
          · rw [hk] at kc
            go_wp2
            go_roundw
            case rel => exact ⟨A3, c3, L, i + 1, rfl, by go_num, by omega, by omega, Lib.hid (simp_skip HL.out hk), HO3, HB3⟩
            case measure => simp [intOf]; omega
          · rw [hk] at kc
            obtain ⟨bx, ox, ⟨t0, t1⟩, rfl, hbl, hx, -⟩ := (HS3.out.below (HB3.out.mono (by omega))).lt hil
            obtain ⟨k0, k1⟩ := cellsPoint (HS3.out.below (HB3.out.mono (by omega))) hx
            have HX := Lib.hid hx; clear hx
            have hz3 := HB3.out.size
            go_wp2_with (at_builtin; refine appPoint _ rfl _ _ rfl w2.heap.size _ L rfl (HO3.out.alloc _) (wr.heap.size + 1) _ 1 _ [(t0, t1)] rfl rfl (seesE_new elPoint wr (t0, t1) _ _ _ (by omega) rfl) (by simp; omega) (by simp; omega) ?_; intro A4 c4 L4 w4 hL4 h1 h2 ho4 hb4)
            go_roundw
            case rel => exact ⟨A4, c4, L4, i + 1, rfl, by go_num, by omega, by simp at h1 h2; omega, Lib.hid (simp_step HL.out HX.out hk hL4.out), Lib.hid ho4, Lib.hid (HB3.out.trans (((Below.refl _ _).alloc hz3 _).trans hb4))⟩
            case measure => simp [intOf]; omega
        · obtain rfl : i = l.length := by omega
          go_wp2
          go_ret
          exact ⟨_, _, L, Lib.hid (by rw [HL.out, HV.out]; rfl), rfl, HO3.out.mono HB2.out.size, HB2.out.trans (HB3.out.mono HB2.out.size)⟩
end Go.Proofs.YtpbmngbigdaklaaDoor
end
section
/- Simpler lines: the farthest point of package impl. -/
namespace Go.Proofs.YtpbmngbigdaklaaDoor
open Go.ChangeShapes Go.WideShapes Go.ChangeAt Go.RowKit
set_option linter.unusedVariables false

theorem gS_yes {l : List (Int × Int)} {n : Int} {i k t : Nat} (h : (gS l n i k t).2 < weighJ l i k (i + 1 + t)) : gS l n i k (t + 1) = (i + 1 + t, weighJ l i k (i + 1 + t)) := by rw [gS, if_pos h]
theorem gS_no {l : List (Int × Int)} {n : Int} {i k t : Nat} (h : ¬ (gS l n i k t).2 < weighJ l i k (i + 1 + t)) : gS l n i k (t + 1) = gS l n i k t := by rw [gS, if_neg h]
/-- What findTooFar gives. -/
def FarOf (l : List (Int × Int)) (n : Int) (i k : Nat) (w : World) (e : Ending) (w' : World) : Prop :=
  (bestV l n i k < 0 ∧ e = .returned (.tuple #[.int .i64 (i : Int), .bool false]) ∧ Below w.heap.size w w') ∨
  (∃ b : Nat, i < b ∧ bestV l n i k = (b : Int) ∧ e = .returned (.tuple #[.int .i64 (b : Int), .bool true]) ∧ Below w.heap.size w w')
set_option maxRecDepth 100000 in
set_option maxHeartbeats 4000000 in
theorem findTooFar_is (l : List (Int × Int)) (n : Int) (A : Option Addr) (c i k : Nat) (w : World) (hp : AllPt l) (hl : l.length ≤ 10) (hn : 0 ≤ n ∧ n ≤ 200) (hik : i < k) (hkl : k < l.length) (hs : SeesE 2 encPoint w w.heap.size A l) :
    Calls Tryd.prog 48 #[.slice A l.length c, .int .i64 (i : Int), .int .i64 (k : Int), .int .i64 n] w (FarOf l n i k w) := by
  have HS := Lib.hid hs; clear hs
  have HP := Lib.hid hp
  obtain ⟨⟨a, b⟩, hpi⟩ : ∃ p, l[i]? = some p := ⟨_, List.getElem?_eq_getElem (by omega)⟩
  obtain ⟨⟨c1, d1⟩, hpk⟩ : ∃ p, l[k]? = some p := ⟨_, List.getElem?_eq_getElem hkl⟩
  obtain ⟨bb, off, rfl, hbl, -⟩ := HS.out i _ hpi
  obtain ⟨p0, p1⟩ := cellsPoint HS.out hpi
  obtain ⟨p2, p3⟩ := cellsPoint HS.out hpk
  have v1 := hp i (by omega); have v2 := hp k hkl
  rw [ptA_get hpi] at v1; rw [ptA_get hpk] at v2
  dsimp only at v1 v2
  have HI := Lib.hid hpi; have HK := Lib.hid hpk
  have hil : (i : Int) < (l.length : Int) := by omega
  have hkl' : (k : Int) < (l.length : Int) := by omega
  obtain ⟨z0, hz0⟩ : ∃ z, limJ l n i k = z := ⟨_, rfl⟩
  have HL : Hid (n * n * wgtV a b c1 d1 = z0) := Lib.hid (by rw [← hz0]; unfold limJ; rw [ptA_get hpi, ptA_get hpk])
  have HG0 : Hid (gS l n i k 0 = (i, z0)) := Lib.hid (by rw [gS, hz0])
  have HQ : Hid (∀ W, Below w.heap.size w W → W.cell? ⟨bb, off + i * 2, none⟩ = some (.int .i64 a) ∧ W.cell? ⟨bb, off + i * 2 + 1, none⟩ = some (.int .i64 b) ∧ W.cell? ⟨bb, off + k * 2, none⟩ = some (.int .i64 c1) ∧ W.cell? ⟨bb, off + k * 2 + 1, none⟩ = some (.int .i64 d1)) := Lib.hid fun W hW => by
    have q := fun o => hW.cell (p := ⟨bb, o, none⟩) hbl
    exact ⟨(q _).trans p0, (q _).trans p1, (q _).trans p2, (q _).trans p3⟩
  have HBa : Hid (∀ o, Below w.heap.size w (w.alloc o).drew) := Lib.hid fun o => ((Below.refl _ w).alloc (Nat.le_refl _) o).drew
  clear hpi hpk hp hz0 p0 p1 p2 p3
  go_enter Tryd.func48, Tryd.ntmps48
  go_upto_region 1 with fail
  go_cut [10] (fun v10 wx => ∃ B, v10 = .pointer (some ⟨B, 0, none⟩) ∧ Hid (OneV w.heap.size wx B (SegC a b c1 d1)) ∧ Hid (Below w.heap.size w wx))
  case first =>
    go_region_held3 (fun w' => w'.cell? ⟨bb, off + i * 2, none⟩ = some (.int .i64 a) ∧ w'.cell? ⟨bb, off + i * 2 + 1, none⟩ = some (.int .i64 b) ∧ w'.cell? ⟨bb, off + k * 2, none⟩ = some (.int .i64 c1) ∧ w'.cell? ⟨bb, off + k * 2 + 1, none⟩ = some (.int .i64 d1))
      (first | exact HQ.out _ (Below.refl _ _) | exact HQ.out _ (Below.refl _ _).drew | exact HQ.out _ (HBa.out _)) (fail)
    all_goals
      go_wp2_with fail
      go_meet
      exact ⟨_, rfl, Lib.hid (OneV.new w (Nat.le_refl _) _ _).drew, Lib.hid (HBa.out _)⟩
  case rest =>
  obtain ⟨B, rfl, HV, HB⟩ := hcut
  obtain ⟨f0, f1, f2, f3⟩ := HV.out.c4
  clear HQ HBa
  go_wp2_with fail
  refine (weighLimit_is a b c1 d1 n z0 _ v1 v2 hn HL.out).mono ?_
  rintro e w2 ⟨rfl, hb2⟩
  have HV2 := Lib.hid (HV.out.next hb2)
  have HB2 := Lib.hid (HB.out.trans (hb2.mono HB.out.size))
  clear hb2 f0 f1 f2 f3
  go_wp2
  go_loopw [11, 12, 13, 14] (fun s11 s12 s13 _ wr => ∃ t : Nat, i + 1 + t ≤ k ∧ s13 = .int .i64 ((i + 1 + t : Nat) : Int) ∧ s11 = .int .i64 ((gS l n i k t).1 : Int) ∧ s12 = .int .i64 (gS l n i k t).2 ∧ Hid (OneV w.heap.size wr B (SegC a b c1 d1)) ∧ Hid (Below w.heap.size w wr)) (fun _ _ s13 _ _ => k - (intOf s13).toNat)
  case atStart => exact ⟨0, by omega, by go_num, by rw [HG0.out], by rw [HG0.out], HV2, HB2⟩
  case round =>
    obtain ⟨t, ht, rfl, rfl, rfl, HV, HB⟩ := hrel
    obtain ⟨j, hj⟩ : ∃ j, i + 1 + t = j := ⟨_, rfl⟩
    have HJ := Lib.hid hj
    have hjk : j ≤ k := by omega
    have hij : i < j := by omega
    rw [hj]
    obtain ⟨⟨g1, g2⟩, hG⟩ : ∃ s, gS l n i k t = s := ⟨_, rfl⟩
    have HG := Lib.hid hG
    rw [hG]
    dsimp only
    clear hG
    by_cases hlt : j < k
    · have hlt' : (j : Int) < (k : Int) := by omega
      have hjl : (j : Int) < (l.length : Int) := by omega
      obtain ⟨⟨x, y⟩, hpj⟩ : ∃ p, l[j]? = some p := ⟨_, List.getElem?_eq_getElem (by omega)⟩
      have hSr := HS.out.below HB.out
      obtain ⟨p4, p5⟩ := cellsPoint hSr hpj
      obtain ⟨f0, f1, f2, f3⟩ := HV.out.c4
      have v3 := HP.out j (by omega)
      rw [ptA_get hpj] at v3
      dsimp only at v3
      obtain ⟨z, hz⟩ : ∃ z, weighJ l i k j = z := ⟨_, rfl⟩
      have HZ : Hid (weighV a b c1 d1 x y = z) := Lib.hid (by rw [← hz]; unfold weighJ; rw [ptA_get HI.out, ptA_get HK.out, ptA_get hpj])
      have HW : Hid (weighJ l i k (i + 1 + t) = z) := Lib.hid (by rw [hj]; exact hz)
      have HQ : Hid (∀ W, Below wr.heap.size wr W → W.cell? ⟨bb, off + j * 2, none⟩ = some (.int .i64 x) ∧ W.cell? ⟨bb, off + j * 2 + 1, none⟩ = some (.int .i64 y) ∧ W.cell? ⟨B, 0, none⟩ = some (.int .i64 a) ∧ W.cell? ⟨B, 1, none⟩ = some (.int .i64 b) ∧ W.cell? ⟨B, 2, none⟩ = some (.int .i64 c1) ∧ W.cell? ⟨B, 3, none⟩ = some (.int .i64 d1)) := Lib.hid fun W hW => by
        have q := fun o => hW.cell (p := ⟨bb, o, none⟩) (Nat.lt_of_lt_of_le hbl HB.out.size)
        have q' := fun o => hW.cell (p := ⟨B, o, none⟩) HV.out.lt
        exact ⟨(q _).trans p4, (q _).trans p5, (q' _).trans f0, (q' _).trans f1, (q' _).trans f2, (q' _).trans f3⟩
      have HBd : Hid (Below wr.heap.size wr wr.drew) := Lib.hid (Below.refl _ _).drew
      clear hpj hz p4 p5 f0 f1 f2 f3 hSr hj
      go_upto_region 6 with fail
      go_cut [14] (fun s14 wx => s14 = .int .i64 z ∧ Hid (Below wr.heap.size wr wx))
      case first =>
        go_region_held3 (fun w' => w'.cell? ⟨bb, off + j * 2, none⟩ = some (.int .i64 x) ∧ w'.cell? ⟨bb, off + j * 2 + 1, none⟩ = some (.int .i64 y) ∧ w'.cell? ⟨B, 0, none⟩ = some (.int .i64 a) ∧ w'.cell? ⟨B, 1, none⟩ = some (.int .i64 b) ∧ w'.cell? ⟨B, 2, none⟩ = some (.int .i64 c1) ∧ w'.cell? ⟨B, 3, none⟩ = some (.int .i64 d1))
          (first | exact HQ.out _ (Below.refl _ _) | exact HQ.out _ HBd.out | exact HQ.out _ HB9.out) (first
          | (go_at_call 37; (with_reducible refine (weighFar_is a b c1 d1 x y z _ v1 v2 v3 HZ.out).mono ?_); rintro e w9 ⟨rfl, hb9⟩; have HB9 := Lib.hid (HBd.out.trans (hb9.mono HBd.out.size))) | fail)
        all_goals
          go_wp2_with fail
          go_meet
          exact ⟨rfl, HB9⟩
      case rest =>
      obtain ⟨rfl, HB9⟩ := hcut
      have HV9 := Lib.hid (HV.out.next HB9.out)
      have HB10 := Lib.hid (HB.out.trans (HB9.out.mono HB.out.size))
      clear HQ HBd HB HB9
      by_cases hgt : g2 < z
      · have HN : Hid (gS l n i k (t + 1) = (j, z)) := Lib.hid (by rw [gS_yes (by rw [HG.out, HW.out]; exact hgt), HJ.out, ← HW.out, HJ.out])
        go_wp2
        go_roundw
        case rel => exact ⟨t + 1, by have := HJ.out; omega, by have := HJ.out; go_num, by rw [HN.out], by rw [HN.out], HV9, HB10⟩
        case measure => simp [intOf]; omega
      · have HN : Hid (gS l n i k (t + 1) = (g1, g2)) := Lib.hid (by rw [gS_no (by rw [HG.out, HW.out]; exact hgt), HG.out])
        go_wp2
        go_roundw
        case rel => exact ⟨t + 1, by have := HJ.out; omega, by have := HJ.out; go_num, by rw [HN.out], by rw [HN.out], HV9, HB10⟩
        case measure => simp [intOf]; omega
    · obtain rfl : j = k := by omega
      have hlt' : ¬ (j : Int) < (j : Int) := by omega
      have hgV := gV_best l n i j
      rw [show j - (i + 1) = t by omega, HG.out] at hgV
      dsimp only at hgV
      rcases hgV with ⟨h1, rfl⟩ | ⟨b', h1, h2, rfl⟩
      · go_wp2
        go_ret2
        exact .inl ⟨h1, rfl, HB.out⟩
      · have hb : ((g1 : Int) != (i : Int)) = true := by simp only [bne_iff_ne, ne_eq]; omega
        go_wp2
        go_ret2
        exact .inr ⟨g1, h1, h2, by rw [← hb]; rfl, HB.out⟩
end Go.Proofs.YtpbmngbigdaklaaDoor
end
section
/- Lines: slices.AppendSeq over the iterator, and SegmentsOf of package impl. -/
namespace Go.Proofs.YtpbmngbigdaklaaDoor
open Go.ChangeShapes Go.WideShapes Go.ChangeAt Go.RowKit Go.Shelf
set_option linter.unusedVariables false
attribute [local go_sem] Oper.semAt_some

theorem newSeg_cells (W : World) (x : Int × Int × Int × Int) (T : TypeId) : ∀ j u, (encSegment x)[j]? = some u → (W.alloc (.cells (sC x) T)).cell? ((⟨W.heap.size, 0, none⟩ : Addr).add j) = some u := fun j u hu => by
  rw [add_none]
  have := (Laid.new W T (sC x)).cell (k := j) (v := u) (by rw [← hu]; exact List.getElem?_toArray)
  simpa using this
theorem cellsSeg_snoc (pre : List (Int × Int × Int × Int)) (x : Int × Int × Int × Int) : cellsE encSegment (pre ++ [x]) = cellsE encSegment pre ++ encSegment x := by rw [cellsE_app]; simp [cellsE]
set_option maxRecDepth 100000 in
set_option maxHeartbeats 4000000 in
theorem appendSeq_any (Bx M n0 c1 : Nat) (A1 : Option Addr) (l : List (Int × Int)) (v0 : Value) (w : World) (bA : Boxed w Bx 24 (.slice A1 l.length c1)) (hs : SeesE 2 encPoint w M A1 l) (hMn : M ≤ n0) (hn0 : n0 ≤ w.heap.size) (hl : l.length ≤ 1000)
    (ho : OwnE 4 encSegment w n0 35 v0 []) :
    Calls Tryd.prog 51 #[v0, .func (.func 49) #[] #[.pointer (some ⟨Bx, 0, none⟩)]] w fun e w' => ∃ v, e = .returned v ∧ OwnE 4 encSegment w' n0 35 v (jts l) ∧ Below n0 w w' := by
  have HO := Lib.hid ho
  refine (callsIn_wide (n := 8)).1 ?_
  refine callsIn_of_wp_marks Tryd.func51 rfl trivial ?_ rfl
  simp only [Tryd.ntmps51, List.size_toArray, List.length_cons, List.length_nil, Nat.reduceAdd, Nat.reduceSub, Array.replicate_succ, Array.replicate_zero, List.push_toArray, List.append_toArray, List.nil_append, List.cons_append]
  have hBl := bA.lt
  have hv1 : v0.oneCell' = true := by obtain ⟨A, c, rfl, -⟩ := OwnE.form ho; rfl
  gi_wp2
  have bS := Boxed.new w 53 v0
  have bA := bA.alloc (.cells #[v0] 53)
  have hB0 : Below n0 w (w.alloc (.cells #[v0] 53)) := (Below.refl _ w).alloc hn0 _
  have hs0 := hs.alloc (Nat.le_trans hMn hn0) (.cells #[v0] 53)
  have ho0 := HO.out.alloc (.cells #[v0] 53)
  have hsz : (w.alloc (.cells #[v0] 53)).heap.size = w.heap.size + 1 := by simp
  obtain ⟨W0, hW0⟩ : ∃ W0, w.alloc (.cells #[v0] 53) = W0 := ⟨_, rfl⟩
  rw [hW0] at bS bA hB0 hsz hs0 ho0 ⊢
  clear hW0
  obtain ⟨i0, hi, hz0, hz1, hz2⟩ := info_parts infoSegment
  refine wpIn_rangeFunc_ownH rfl (by omega) (gf := 49) (lb := #[.pointer (some ⟨Bx, 0, none⟩)]) rfl trivial (enters_of Tryd.func49 (by kernel_rfl) rfl)
    (joints_stops (8 - 1) (by omega) Bx M (fun k => k < M ∨ k = Bx) A1 c1 l (by omega) W0 bA.lt (by omega) (.inr rfl) (fun _ h => .inl h) bA.cell hs0) KpS.t (KpS.book (by intro k hk; have := bA.lt; omega)) (Below.refl _ _) (fun _ => rfl)
    (fun pre W => ((∃ v, Boxed W w.heap.size 53 v ∧ W.ownsRow n0 35 4 v pre.length (cellsE encSegment pre) ∧ True) ∧ Boxed W Bx 24 (.slice A1 l.length c1)) ∧ Below n0 w W)
    (fun _ _ _ => False)
    (OwnFrom.and (OwnFrom.and (Own.from (holdsRow_own n0 w.heap.size 53 35 4 (fun pre => pre.length) (fun pre => cellsE encSegment pre) (fun _ _ => True)) _) (Own.from (boxed_own _ _ _) _)) (ownFrom_below hn0 (by omega)))
    (fun cc _ _ _ _ hs _ _ => hs)
    ⟨⟨⟨v0, bS, ho0, trivial⟩, bA⟩, hB0⟩
    (fun x a' W => ∃ By, w.heap.size < By ∧ Laid W By 35 (sC x) ∧ a' = { tmps := #[v0, .func (.func 49) #[] #[.pointer (some ⟨Bx, 0, none⟩)], .pointer (some ⟨w.heap.size, 0, none⟩), undef, .slice none 0 0, .pointer (some ⟨By, 0, none⟩), .func (.func 49) #[] #[.pointer (some ⟨Bx, 0, none⟩)], sV x, undef, undef, undef, undef, undef], defers := [] })
    (fun x a' _ X Y row hs hg hr => by obtain ⟨Bx, h1, h2, h3⟩ := hs; exact ⟨Bx, h1, laid_own Bx 35 (fun (_ : Unit) => sC x) () X Y row h2 hg (fun r e => (hr r e).2), h3⟩)
    ?assign ?body ?done ?stop
  case assign =>
    rintro y pre x W K ⟨⟨⟨v, bS1, hr1, -⟩, bA1⟩, hB1⟩ hK
    gi_wp2
    exact hK _ _ ((KeepsOthers.alloc _ _).from _) (KpS.alloc _ _) ⟨⟨⟨v, bS1.alloc _, hr1.alloc _, trivial⟩, bA1.alloc _⟩, hB1.alloc (Nat.le_trans hn0 (by have := bS1.lt; omega)) _⟩ ⟨W.heap.size, bS1.lt, Laid.new W _ _, rfl⟩
  case body =>
    rintro y pre x a' W hy hr ⟨⟨⟨v, hv, hrow, -⟩, bA1⟩, hB1⟩ ⟨By, hBy, bX, rfl⟩ hlt
    obtain ⟨x0, x1, x2, x3⟩ := bX.c4
    have hc := hv.cell
    have hnW : n0 ≤ W.heap.size := Nat.le_trans hn0 (by have := hv.lt; omega)
    have hpl : pre.length ≤ 1000 := by rw [jts_len] at hlt; omega
    gi_wp2_with (gi_at_builtin; refine wpListIn_append_own _ rfl _ _ 53 rfl n0 35 i0 _ 4 32 Tryd.underlying53 hi hz0 hz1 hz2 rfl (by decide) _ _ _ rfl (hrow.alloc _) ⟨W.heap.size, 0, none⟩ 1 1 (encSegment x) rfl rfl (newSeg_cells _ _ _) (elSegment.2 x).2 (by simp only [maxLen]; omega) (by omega) (by simp; omega) ?_; intro v' w1 hown' hgrow _; obtain ⟨g', cap', rfl⟩ := ownsRow_succ hown'; obtain ⟨hv1, hv2, hr2, hk2, hb2⟩ := hv.appended (by decide) hrow hnW hn0 hown' hgrow; have hc1 := hv1.cell; have hf1 := hv1.frozen)
    refine ⟨hk2.from _, ((KpS.alloc W _).trans (KpS.grown hgrow fun k e hk => ?_)).trans (KpS.setCell _ _ _ fun hk => ?_), ⟨⟨_, hv2, ?_, trivial⟩, ((bA1.alloc _).kept hgrow (bA1.not_row (by decide) hrow)).other (by omega) _⟩, hB1.trans hb2⟩
    · have h1 := (World.ownsRow.lt hrow k e).1
      rcases hk with hk | hk
      · omega
      · subst hk; exact bA1.not_row (by decide) hrow e.symm
    · dsimp only at hk; omega
    · rw [cellsSeg_snoc, List.length_append]; exact hr2
  case done =>
    rintro D zs W hD rfl ⟨⟨⟨v, hv, hrow, -⟩, bA1⟩, hB1⟩ hK
    have hc := hv.cell
    gi_wp2
    refine ⟨by simp, .inl ⟨_, _, rfl, run_takeDeferred hK, ?_⟩⟩
    exact ⟨_, results_tmp rfl _ _ _, v, rfl, ownsRow_putObj hrow _ hK rfl, hB1.trans (belowK_b (w := w) hn0 W D _ _ (by omega) hK rfl rfl)⟩
  case stop =>
    rintro D cc pre W _ _ h _
    exact h.elim
set_option maxRecDepth 100000 in
theorem segmentsOf_any (A : Option Addr) (c : Nat) (l : List (Int × Int)) (w : World) (hs : SeesE 2 encPoint w w.heap.size A l) (hl : l.length ≤ 1099511627776) :
    Calls Tryd.prog 32 #[.slice A l.length c] w (GivesE 4 encSegment 35 (sgV l) w) := by
  have HS := Lib.hid hs; clear hs
  go_enter Tryd.func32, Tryd.ntmps32
  go_wp2_with (first
    | (go_at_call 52; refine (walkLine_any A c l _ w.heap.size (by simp) (HS.out.alloc (Nat.le_refl _) _) hl).mono ?_; rintro e w1 ⟨Bx, A1, c1, rfl, hBx, bA, hS1, hB1⟩)
    | (go_at_call 51; refine (appendSeq_any Bx w.heap.size w.heap.size c1 A1 (lnV l) _ w1 bA hS1 (Nat.le_refl _) (Nat.le_trans (by simp) hB1.size) (by have := lnV_len l; omega) ((OwnE.lit w w.heap.size 35 (Nat.le_refl _)).belowAll hB1)).mono ?_; rintro e w2 ⟨v, rfl, ho2, hB2⟩))
  go_ret
  obtain ⟨A2, c2, rfl, -, -⟩ := ho2.form
  exact ⟨A2, c2, _, Lib.hid rfl, rfl, ho2, (((Below.refl _ w).alloc (Nat.le_refl _) _).trans (hB1.mono (by simp))).trans hB2⟩
end Go.Proofs.YtpbmngbigdaklaaDoor
end
section
/- Simpler lines: keepPoints of package impl. -/
namespace Go.Proofs.YtpbmngbigdaklaaDoor
open Go.ChangeShapes Go.WideShapes Go.ChangeAt Go.RowKit
set_option linter.unusedVariables false

/-- The variable errNotSimpler holds a pointer to an error of errors.New's make. -/
def SimAt (a0 : Addr) (w : World) : Prop := w.cell? ⟨0, 0, none⟩ = some (.iface 109 (.pointer (some a0)))
section
variable {a0 : Addr} {w w' : World}
theorem SimAt.lt (h : SimAt a0 w) : 0 < w.heap.size := World.block_lt_of_cell? _ _ h
theorem SimAt.below {B : Nat} (h : SimAt a0 w) (hb : Below B w w') (hB : 0 < B) : SimAt a0 w' := (hb.cell (p := ⟨0, 0, none⟩) hB).trans h
theorem SimAt.all (h : SimAt a0 w) (hb : Below w.heap.size w w') : SimAt a0 w' := h.below hb h.lt
end
/-- Two rows in blocks of their own. -/
def ApartB (u v : Value) : Prop := ∀ g, u.ownBlock = some g → v.ownBlock ≠ some g
theorem ApartB.symm {u v : Value} (h : ApartB u v) : ApartB v u := fun g h1 h2 => h g h2 h1
theorem ApartB.kept {u v : Value} (h : ApartB u v) : u.ownBlock = none ∨ u.ownBlock ≠ v.ownBlock := by
  cases hu : u.ownBlock with
  | none => exact .inl rfl
  | some g => exact .inr fun e => h g hu e.symm
theorem ApartB.new {u v v' : Value} {n : Nat} (h : ApartB u v) (hv : v'.ownBlock = v.ownBlock ∨ v'.ownBlock = some n) (hu : ∀ g, u.ownBlock = some g → g < n) : ApartB u v' := fun g h1 h2 => by
  rcases hv with hv | hv
  · exact h g h1 (hv.symm.trans h2)
  · have := hu g h1
    rw [hv] at h2
    have := Option.some.inj h2
    omega
theorem Own.cutTo {w : World} {B : Nat} {e : TypeId} {k : IntKind} {A : Option Addr} {n c m : Nat} {l : List Int} (h : Own w B e k (.slice A n c) l) (hm : m ≤ l.length) : Own w B e k (.slice A m c) (l.take m) := by
  have hlen : (l.take m).length = m := by rw [List.length_take]; omega
  refine ⟨by simp [kv], ?_⟩
  rw [hlen]
  rcases h.2 with ⟨hv, h0⟩ | ⟨g, cap, cur, hv, hB, hg, h1, h2, h3, h4⟩
  · simp only [Value.slice.injEq] at hv
    obtain ⟨rfl, rfl, rfl⟩ := hv
    have : m = 0 := by omega
    subst this
    exact .inl ⟨rfl, rfl⟩
  · simp only [Value.slice.injEq] at hv
    obtain ⟨rfl, rfl, rfl⟩ := hv
    refine .inr ⟨g, c, cur, rfl, hB, hg, by omega, h2, h3, ?_⟩
    have : cur.toList.take (m * 1) = (cur.toList.take (l.length * 1)).take (m * 1) := by rw [List.take_take]; congr 1; omega
    rw [this, h4, Nat.mul_one]
    simp [kv, List.map_take]
/-- append of a number: which block it writes. -/
theorem app64G (w : World) {ops : Array Oper} {rest : List Oper} {o : Oper} {a : Act} {Q : Exit → Act → World → Prop} (hgd : o.guard = none) (s x : Operand)
    (ho : o.op = .call { callee := .builtin .append, args := #[s, x], argTypes := #[70, 70] })
    (base : Nat) (v : Value) (l : List Int) (hv : a.eval s = v) (hown : Own w base 3 .i64 v l)
    (B : Nat) (A : Option Addr) (m c : Nat) (l2 : List Int) (hx : a.eval x = .slice A m c) (hm : m = l2.length) (hs : Sees w B .i64 A l2) (h63 : l.length + l2.length ≤ 17592186044416) (hbase : base ≤ w.heap.size)
    (h : ∀ A' c' L w', Hid (L = l ++ l2) → L.length ≤ l.length + l2.length → l.length + l2.length ≤ L.length → Own w' base 3 .i64 (.slice A' L.length c') L → Below base w w' → Hid (w.grownBy w' v.ownBlock) → Hid ((Value.slice A' L.length c').ownBlock = v.ownBlock ∨ (Value.slice A' L.length c').ownBlock = some w.heap.size) → wpList Tryd.prog ops Q rest (a.put o.dst (.slice A' L.length c')) w') :
    wpList Tryd.prog ops Q (o :: rest) a w := by
  obtain ⟨i, hi, hz, h1, h2⟩ := info_parts info_int
  obtain ⟨v', w', hrun, q2, q3, q4⟩ := run_app (P := Tryd.prog) w 70 o.type 3 .i64 i _ 8 Tryd.underlying70 hi hz h1 h2 rfl base v l hown B A m c l2 hm hs h63 (by decide) hbase
  refine wpList_plain hgd fun _ hK => ?_
  unfold Oper.wp execOp
  simp only [ho, resolve, invoke, builtin, Sem.run_bind, Sem.run_pure, Result.andThen_ok, List.map_toArray, List.map_cons, List.map_nil, hv, hx, hrun]
  obtain ⟨A', c', rfl, _, _⟩ := q2.form
  exact hK _ _ (h A' c' _ w' (Lib.hid rfl) (by simp) (by simp) q2 ((Below.refl _ _).grown q3 hbase fun g hg => (World.ownsRow.lt hown g hg).1) (Lib.hid q3) (Lib.hid q4))
/-- append of a point: which block it writes. -/
theorem appPointG (w : World) {ops : Array Oper} {rest : List Oper} {o : Oper} {a : Act} {Q : Exit → Act → World → Prop} (hgd : o.guard = none) (s x : Operand)
    (ho : o.op = .call { callee := .builtin .append, args := #[s, x], argTypes := #[24, 24] })
    (base : Nat) (v : Value) (l : List (Int × Int)) (hv : a.eval s = v) (hown : OwnE 2 encPoint w base 33 v l)
    (B : Nat) (A : Option Addr) (m c : Nat) (l2 : List (Int × Int)) (hx : a.eval x = .slice A m c) (hm : m = l2.length) (hs : SeesE 2 encPoint w B A l2) (h63 : l.length + l2.length ≤ 1099511627776) (hbase : base ≤ w.heap.size)
    (h : ∀ A' c' L w', Hid (L = l ++ l2) → L.length ≤ l.length + l2.length → l.length + l2.length ≤ L.length → OwnE 2 encPoint w' base 33 (.slice A' L.length c') L → Below base w w' → Hid (w.grownBy w' v.ownBlock) → Hid ((Value.slice A' L.length c').ownBlock = v.ownBlock ∨ (Value.slice A' L.length c').ownBlock = some w.heap.size) → wpList Tryd.prog ops Q rest (a.put o.dst (.slice A' L.length c')) w') :
    wpList Tryd.prog ops Q (o :: rest) a w := by
  obtain ⟨i, hi, hz, h1, h2⟩ := info_parts infoPoint
  obtain ⟨v', w', hrun, q2, q3, q4⟩ := run_appE (P := Tryd.prog) w elPoint 24 o.type 33 i _ 16 Tryd.underlying24 hi hz h1 h2 rfl base v l hown B A m c l2 hm hs h63 (by decide) hbase
  refine wpList_plain hgd fun _ hK => ?_
  unfold Oper.wp execOp
  simp only [ho, resolve, invoke, builtin, Sem.run_bind, Sem.run_pure, Result.andThen_ok, List.map_toArray, List.map_cons, List.map_nil, hv, hx, hrun]
  obtain ⟨A', c', rfl, _, _⟩ := q2.form
  exact hK _ _ (h A' c' _ w' (Lib.hid rfl) (by simp) (by simp) q2 ((Below.refl _ _).grown q3 hbase fun g hg => (World.ownsRow.lt hown g hg).1) (Lib.hid q3) (Lib.hid q4))
theorem OwnE.onePt (w : World) (B : Nat) (x y : Int) (hB : B ≤ w.heap.size) : OwnE 2 encPoint (w.alloc (.cells #[.int .i64 x, .int .i64 y] 33)) B 33 (.slice (some ⟨w.heap.size, 0, none⟩) 1 1) [(x, y)] :=
  World.ownsRow_lit (base := B) (e := 33) (size := 2) w #[.int .i64 x, .int .i64 y] 1 hB (by decide) rfl
theorem Own.oneI (w : World) (B : Nat) (x : Int) (hB : B ≤ w.heap.size) : Own (w.alloc (.cells #[.int .i64 x] 3)) B 3 .i64 (.slice (some ⟨w.heap.size, 0, none⟩) 1 1) [x] :=
  World.ownsRow_lit (base := B) (e := 3) (size := 1) w #[.int .i64 x] 1 hB (by decide) rfl
theorem requireLine_yes (A : Option Addr) (c : Nat) (l : List (Int × Int)) (n : Int) (w : World) (hs : SeesE 2 encPoint w w.heap.size A l) (hl : l.length ≤ 1099511627776) (hi : isLn l = true) (hn : inB n 0 200 = true) :
    Calls Tryd.prog 47 #[.slice A l.length c, .int .i64 n] w fun e w' => e = .returned (.tuple #[]) ∧ Below w.heap.size w w' := by
  have HS := Lib.hid hs; clear hs
  go_enter Tryd.func47, Tryd.ntmps47
  go_wp2_with (first
    | (go_at_call 11; refine (isLine_is A c l _ HS.out hl _ hi).mono ?_; rintro e w1 ⟨rfl, hb1⟩)
    | (go_at_call 28; refine (in_is _ _ _ _ _ hn).mono ?_; rintro e w2 ⟨rfl, rfl⟩))
  first
    | exact ⟨_, rfl, rfl, hb1⟩
    | (refine bodyPost_ret (results_none rfl _ _ _) rfl ?_; exact ⟨rfl, hb1⟩)
    | (go_end0; exact ⟨rfl, hb1⟩)
    | trace_state
theorem requireLine_no (a0 : Addr) (A : Option Addr) (c : Nat) (l : List (Int × Int)) (n : Int) (w : World) (hE : SimAt a0 w) (hs : SeesE 2 encPoint w w.heap.size A l) (hl : l.length ≤ 1099511627776) (hi : isLn l = false ∨ inB n 0 200 = false) :
    Calls Tryd.prog 47 #[.slice A l.length c, .int .i64 n] w fun e w' => e = .panicked [{ v := .iface 109 (.pointer (some a0)), recovered := false }] ∧ Below w.heap.size w w' := by
  have HS := Lib.hid hs; clear hs
  have HE := Lib.hid hE; clear hE
  go_enter Tryd.func47, Tryd.ntmps47
  cases h1 : isLn l
  · go_wp2_with fail
    refine (isLine_is A c l _ HS.out hl _ h1).mono ?_
    rintro e w1 ⟨rfl, hb1⟩
    have hE1 := HE.out.all hb1
    unfold SimAt at hE1
    go_wp2
    exact ⟨rfl, rfl, hb1⟩
  · obtain hn : inB n 0 200 = false := by rcases hi with h | h; rw [h1] at h; cases h; exact h
    go_wp2_with fail
    refine (isLine_is A c l _ HS.out hl _ h1).mono ?_
    rintro e w1 ⟨rfl, hb1⟩
    have hE1 := HE.out.all hb1
    unfold SimAt at hE1
    go_wp2_with fail
    refine (in_is _ _ _ _ _ hn).mono ?_
    rintro e w2 ⟨rfl, rfl⟩
    go_wp2
    exact ⟨rfl, rfl, hb1⟩
theorem keepPoints_no (a0 : Addr) (A : Option Addr) (c : Nat) (l : List (Int × Int)) (n : Int) (w : World) (hE : SimAt a0 w) (hs : SeesE 2 encPoint w w.heap.size A l) (hl : l.length ≤ 1099511627776) (hi : isLn l = false ∨ inB n 0 200 = false) :
    Calls Tryd.prog 27 #[.slice A l.length c, .int .i64 n] w fun e w' => e = .panicked [{ v := .iface 109 (.pointer (some a0)), recovered := false }] ∧ Below w.heap.size w w' := by
  have HS := Lib.hid hs; clear hs
  go_enter Tryd.func27, Tryd.ntmps27
  go_wp2_with (go_at_call 47; refine (requireLine_no a0 A c l n _ hE HS.out hl hi).mono ?_; rintro e w1 ⟨rfl, hb1⟩)
  exact ⟨rfl, rfl, hb1⟩
def lenOfS : Value → Nat
  | .slice _ n _ => n
  | _ => 0
/-- The loop's variables: the place behind, what is kept, the stack. -/
def KeepRel (l : List (Int × Int)) (n : Int) (w : World) (s5 s6 s7 : Value) (wr : World) : Prop :=
  ∃ (u : Nat) (R : List Nat) (A2 : Option Addr) (c2 : Nat) (K : List (Int × Int)) (A3 : Option Addr) (c3 : Nat) (S : List Int),
    s5 = .int .i64 (u : Int) ∧ s6 = .slice A2 K.length c2 ∧ s7 = .slice A3 S.length c3 ∧ Hid (S = (R.map fun (x : Nat) => (x : Int)).reverse) ∧ Hid (S.length = R.length) ∧ Hid (ChainS l n u R) ∧ Hid (K = outTo l n u) ∧
    Hid (OwnE 2 encPoint wr w.heap.size 33 (.slice A2 K.length c2) K) ∧ Hid (Own wr w.heap.size 3 .i64 (.slice A3 S.length c3) S) ∧ Hid (ApartB (.slice A2 K.length c2) (.slice A3 S.length c3)) ∧ Hid (Below w.heap.size w wr)
def keepPopT : List (Nat × Nat × Nat) := [(0, 46, 256), (0, 47, 128), (0, 48, 128), (4, 49, 140737488355328), (8, 50, 281474976710656), (18, 51, 633318697598976), (1, 6, 35184372088832), (127, 8, 1125899906842624)]
def keepPopS : List (Nat × Bool) := [(0, true), (1, true), (2, true), (3, true), (4, true), (5, true), (6, true), (7, true)]
set_option maxRecDepth 100000 in
set_option maxHeartbeats 4000000 in
theorem keepPoints_yes (A : Option Addr) (c : Nat) (l : List (Int × Int)) (n : Int) (w : World) (hs : SeesE 2 encPoint w w.heap.size A l) (hl : l.length ≤ 1099511627776) (hi : isLn l = true) (hn : inB n 0 200 = true) :
    Calls Tryd.prog 27 #[.slice A l.length c, .int .i64 n] w (GivesE 2 encPoint 33 (simpL l n) w) := by
  have HS := Lib.hid hs; clear hs
  have hln := isLn_yes hi
  have hp := allPt_ln hi
  have hnb : 0 ≤ n ∧ n ≤ 200 := by simp only [inB, decide_eq_true_eq] at hn; exact hn
  have h2l := hln.1; have h10 := hln.2.1
  have HP := Lib.hid hp
  clear hln hp
  obtain ⟨⟨x0, y0⟩, hp0⟩ : ∃ p, l[0]? = some p := ⟨_, List.getElem?_eq_getElem (by omega)⟩
  have H0 := Lib.hid hp0; clear hp0
  go_enter Tryd.func27, Tryd.ntmps27
  go_wp2_with fail
  refine (requireLine_yes A c l n _ HS.out hl hi hn).mono ?_
  rintro e w1 ⟨rfl, hb1⟩
  have HB1 := Lib.hid hb1
  have HS1 := Lib.hid (HS.out.below hb1)
  clear hb1
  obtain ⟨bb, off, rfl, hbl, -⟩ := HS1.out 0 _ H0.out
  obtain ⟨k0', k1'⟩ := cellsPoint HS1.out H0.out
  have k0 : w1.cell? ⟨bb, off, none⟩ = some (.int .i64 x0) := by simpa using k0'
  have k1 : w1.cell? ⟨bb, off + 1, none⟩ = some (.int .i64 y0) := by simpa using k1'
  clear k0' k1'
  have hl0 : (0 : Int) < (l.length : Int) := by omega
  have e1 : (l.length : Int) - 1 = ((l.length - 1 : Nat) : Int) := by omega
  go_wp2_with fail
  go_loopw [5, 6, 7, 8, 9, 10] (fun s5 s6 s7 _ _ _ wr => KeepRel l n w s5 s6 s7 wr) (fun s5 _ s7 _ _ _ _ => 2 * (l.length - (intOf s5).toNat) - lenOfS s7)
  case atStart =>
    have hz := HB1.out.size
    refine ⟨0, [l.length - 1], _, 1, [(x0, y0)], _, 1, [((l.length - 1 : Nat) : Int)], rfl, rfl, rfl, Lib.hid (by simp), Lib.hid rfl, Lib.hid (ChainS.start h2l), Lib.hid (by rw [out_zero, ptA_get H0.out]),
      Lib.hid ((OwnE.onePt w1 w.heap.size x0 y0 hz).alloc _), Lib.hid (by have := Own.oneI (w1.alloc (.cells #[.int .i64 x0, .int .i64 y0] 33)) w.heap.size ((l.length - 1 : Nat) : Int) (by simp; omega); simpa using this), Lib.hid ?_, Lib.hid ((HB1.out.alloc hz _).alloc (by simp; omega) _)⟩
    intro g h1 h2
    have e1 := Option.some.inj h1
    have e2 := Option.some.inj h2
    dsimp only at e1 e2
    omega
  case round =>
    obtain ⟨u, R, A2, c2, K, A3, c3, S, rfl, rfl, rfl, HSe, HSl, HC, HK, HO, HI, HA, HB⟩ := hrel
    cases R with
    | nil =>
      have hS0 : S.length = 0 := HSl.out
      have hg : ¬ (0 : Int) < (S.length : Int) := by omega
      have HV : Hid (K = simpL l n) := Lib.hid (by rw [HK.out]; exact HC.out.done)
      go_wp2
      go_ret
      exact ⟨A2, c2, K, HV, rfl, HO.out, HB.out⟩
    | cons v R =>
      obtain ⟨q, hq⟩ : ∃ q, R.length = q := ⟨_, rfl⟩
      have hSl : S.length = q + 1 := by rw [HSl.out, List.length_cons, hq]
      have hg : (0 : Int) < (S.length : Int) := by omega
      have e2 : (S.length : Int) - 1 = (q : Int) := by omega
      have hqS : (q : Int) < (S.length : Int) := by omega
      have hqS' : q ≤ S.length := by omega
      have hlen := HC.out.2.2.2.len
      have huv := HC.out.1
      have hvl : v < l.length := by omega
      have hul : u < l.length := by omega
      have hvl' : (v : Int) < (l.length : Int) := by omega
      obtain ⟨g, rfl, hBg, -, hrow⟩ := HI.out.row (by omega)
      have HT : Hid (S[q]? = some (v : Int)) := Lib.hid (by
        rw [HSe.out, List.map_cons, List.reverse_cons, List.getElem?_append_right (by simp; omega)]
        simp [hq])
      have HTk : Hid (S.take q = (R.map fun (x : Nat) => (x : Int)).reverse) := Lib.hid (by
        rw [HSe.out, List.map_cons, List.reverse_cons, List.take_left' (by simp [hq])])
      obtain ⟨b', off', hA', hlt', kS'⟩ := HI.out.sees q _ HT.out
      have kS : wr.cell? ⟨g, q, none⟩ = some (.int .i64 (v : Int)) := by
        have h1 := Option.some.inj hA'
        simp only [Addr.mk.injEq] at h1
        obtain ⟨rfl, rfl, -⟩ := h1
        simpa using kS'
      have HSr := Lib.hid (HS.out.below HB.out)
      clear hrow hA' hlt' kS'
      go_wp2_with fail
      refine (findTooFar_is l n _ c u v _ HP.out h10 hnb huv hvl (HSr.out.mono HB.out.size)).mono ?_
      rintro e w2 (⟨hb, rfl, hb2⟩ | ⟨b, hub, hb, rfl, hb2⟩)
      · have HP2 := Lib.hid (HC.out.pop hb)
        have HO2 := Lib.hid (HO.out.belowAll hb2)
        have HI2 := Lib.hid ((HI.out.belowAll hb2).cutTo hqS')
        have HB2 := Lib.hid (HB.out.trans (hb2.mono HB.out.size))
        have hz2 := HB2.out.size
        obtain ⟨⟨x, y⟩, hpv⟩ : ∃ p, l[v]? = some p := ⟨_, List.getElem?_eq_getElem hvl⟩
        obtain ⟨p0, p1⟩ := cellsPoint (HSr.out.below (hb2.mono HB.out.size)) hpv
        have HX := Lib.hid hpv
        have hKl : K.length ≤ 10 := by have := out_len l n u; rw [← HK.out] at this; omega
        have hcap : q + 1 ≤ c3 := by have := HI.out.cap; omega
        have hqc : (q : Int) ≤ (c3 : Int) := by omega
        have b1 : (0 : Int) ≤ (q : Int) := by omega
        have b2 : ¬ ((q : Int) < 0) := by omega
        have b3 : ¬ ((c3 : Int) < (q : Int)) := by omega
        have hw0 : IntKind.i64.wrap (q : Int) = (q : Int) := by rw [IntKind.wrap_i64]; omega
        have hTl : (S.take q).length = q := by rw [List.length_take]; omega
        clear hb2 hpv kS
        go_upto_region 9 with fail
        go_cut [5, 7] (fun s5 s7 wx => s5 = .int .i64 (v : Int) ∧ s7 = .slice (some ⟨g, 0, none⟩) q c3 ∧ Hid (Below w2.heap.size w2 wx))
        case first =>
          refine wp_region_held_drew (S := (fun w' => True)) (by kernel_rfl) trivial (fun hHeld => ?_)
          refine to_lin (T := keepPopT) (n := 8) keepPopS ⟨by kernel_rfl, by kernel_rfl, by kernel_rfl⟩ (by kernel_rfl) (fun hTag => ?_)
          iterate 5 (refine lin_on (v := ?_) rfl (fun _ _ _ h => h) (by rfl) ?_ (by assumption) ?_; rotate_left; (· (intro wq hSw; go_simp; try with_reducible rfl)); try simp only [Act.put, List.setIfInBounds_toArray, List.set_cons_zero, List.set_cons_succ])
          refine lin_on (v := .slice (some ⟨g, 0, none⟩) q c3) rfl (fun _ _ _ h => h) (by rfl) ?_ (by assumption) ?_
          · intro wq hSw
            go_simp
            try (rw [hw0, if_pos ⟨b1, hqc⟩]; rfl)
          try simp only [Act.put, List.setIfInBounds_toArray, List.set_cons_zero, List.set_cons_succ]
          iterate 2 (refine lin_on (v := ?_) rfl (fun _ _ _ h => h) (by rfl) ?_ (by assumption) ?_; rotate_left; (· (intro wq hSw; go_simp; try with_reducible rfl)); try simp only [Act.put, List.setIfInBounds_toArray, List.set_cons_zero, List.set_cons_succ])
          refine lin_done ?_
          go_wp2_with fail
          go_meet
          exact ⟨rfl, rfl, Lib.hid (Below.refl _ _).drew⟩
        case rest =>
        obtain ⟨rfl, rfl, HBx⟩ := hcut
        have HO3 := Lib.hid (HO2.out.belowAll HBx.out)
        have HI3 := Lib.hid (HI2.out.belowAll HBx.out)
        have HB3 := Lib.hid (HB2.out.trans (HBx.out.mono hz2))
        have hz3 := HB3.out.size
        have p0 := (HBx.out.cell (Nat.lt_of_lt_of_le hbl hz2)).trans p0
        have p1 := (HBx.out.cell (Nat.lt_of_lt_of_le hbl hz2)).trans p1
        go_wp2_with (first
          | (at_builtin; refine appPointG _ rfl _ _ rfl w.heap.size _ K rfl (HO3.out.alloc _) (wc.heap.size + 1) _ 1 _ [(x, y)] rfl rfl (seesE_new elPoint wc (x, y) _ _ _ (Nat.lt_succ_self _) rfl) (by simp; omega) (by simp; omega) ?_; intro A4 c4 L4 w4 hL4 h1 h2 ho4 hb4 hg4 hv4))
        have HApt : Hid (ApartB (.slice A4 L4.length c4) (.slice (some ⟨g, 0, none⟩) (S.take q).length c3)) := Lib.hid (ApartB.symm (ApartB.new (u := .slice (some ⟨g, 0, none⟩) (S.take q).length c3) (v := .slice A2 K.length c2) (fun g h1 h2 => HA.out.symm g h1 h2) hv4.out (fun g' hg' => by have := (HI3.out.alloc (.cells #[.int .i64 x, .int .i64 y] 33)).at_ g' hg'; exact this.2)))
        have HI4 := Lib.hid ((HI3.out.alloc (.cells #[.int .i64 x, .int .i64 y] 33)).kept hg4.out (ApartB.kept (u := .slice (some ⟨g, 0, none⟩) q c3) (v := .slice A2 K.length c2) (fun g h1 h2 => HA.out.symm g h1 h2)))
        go_roundw
        case rel => exact ⟨v, R, A4, c4, L4, some ⟨g, 0, none⟩, c3, S.take q, rfl, rfl, by rw [hTl], HTk, Lib.hid (by rw [hTl, hq]), Lib.hid HP2.out.1, Lib.hid (by rw [hL4.out, HP2.out.2, HK.out, ptA_get HX.out]), Lib.hid ho4, Lib.hid (by rw [hTl]; exact HI4.out), HApt, Lib.hid ((HB3.out.alloc hz3 _).trans hb4)⟩
        case measure => simp [intOf, lenOfS, hSl]; omega
      · have HP2 := Lib.hid (HC.out.push hb)
        have HO2 := Lib.hid (HO.out.belowAll hb2)
        have HI2 := Lib.hid (HI.out.belowAll hb2)
        have HB2 := Lib.hid (HB.out.trans (hb2.mono HB.out.size))
        have hz2 := HB2.out.size
        have hlen2 := HP2.out.len
        simp only [List.length_cons] at hlen2
        clear hb2 kS
        go_wp2_with (first
          | (at_builtin; refine app64G _ rfl _ _ rfl w.heap.size _ S (by rw [← hSl]; rfl) (HI2.out.alloc _) (w2.heap.size + 1) _ 1 _ [(b : Int)] rfl rfl (sees_new w2 .i64 (b : Int) _ _ (Nat.lt_succ_self _)) (by simp; omega) (by simp; omega) ?_; intro A4 c4 L4 w4 hL4 h1 h2 ho4 hb4 hg4 hv4))
        have HApt : Hid (ApartB (.slice A2 K.length c2) (.slice A4 L4.length c4)) := Lib.hid (ApartB.new (v := .slice (some ⟨g, 0, none⟩) S.length c3) HA.out hv4.out (fun g' hg' => ((HO2.out.alloc (.cells #[.int .i64 (b : Int)] 3)).lt g' hg').2))
        have HO4 := Lib.hid ((HO2.out.alloc (.cells #[.int .i64 (b : Int)] 3)).kept hg4.out (ApartB.kept HA.out))
        go_roundw
        case rel => exact ⟨u, b :: v :: R, A2, c2, K, A4, c4, L4, rfl, rfl, rfl, Lib.hid (by rw [hL4.out, HSe.out]; simp), Lib.hid (by rw [hL4.out]; simp [hSl, hq]), HP2, HK, HO4, Lib.hid ho4, HApt, Lib.hid ((HB2.out.alloc hz2 _).trans hb4)⟩
        case measure => simp [intOf, lenOfS, hSl] at h1 h2 ⊢; omega
end Go.Proofs.YtpbmngbigdaklaaDoor
end
section
/- Simpler lines: SimplifyLine and CountLeftOut of package impl: a panic, a deferred closure, recover. -/
namespace Go.Proofs.YtpbmngbigdaklaaDoor
open Go.ChangeShapes Go.WideShapes Go.ChangeAt Go.RowKit
set_option linter.unusedVariables false

theorem OwnE.setUnder {α : Type} {n : Nat} {enc : α → List Value} {w : World} {lo b : Nat} {e : TypeId} {v : Value} {L : List α} (h : OwnE n enc w lo e v L) (hb : b < lo) (u : Value) : OwnE n enc (w.setCell ⟨b, 0, none⟩ u) lo e v L := by
  refine h.kept (grownBy_setCell' _ _ _) ?_
  cases hv : v.ownBlock with
  | none => exact .inl rfl
  | some g => right; intro e; have := (h.lt g hv).1; have := Option.some.inj e; omega
theorem sliceNil (A : Option Addr) (n c : Nat) (w : World) : (binOp .eql 24 (.slice A n c) (.slice none 0 0)).run Tryd.prog w = .ok (.bool A.isNone) w := by
  simp only [binOp]
  simp [run_equal_slice_nil w _ _ A n c Tryd.underlying24]
set_option maxRecDepth 100000 in
theorem clone_any (A : Option Addr) (c : Nat) (l : List (Int × Int)) (w : World) (hs : SeesE 2 encPoint w w.heap.size A l) (hl : l.length ≤ 549755813888) :
    Calls Tryd.prog 26 #[.slice A l.length c] w (GivesE 2 encPoint 33 l w) := by
  have HS := Lib.hid hs; clear hs
  go_enter Tryd.func26, Tryd.ntmps26
  cases A with
  | none =>
    obtain rfl : l = [] := by
      match l, HS with
      | [], _ => rfl
      | x :: r, hs => obtain ⟨b, off, hA, _⟩ := hs.out 0 x rfl; cases hA
    have hnil := sliceNil none 0 c
    rw [Option.isNone_none] at hnil
    go_wp2
    go_ret
    exact ⟨none, 0, [], Lib.hid rfl, rfl, OwnE.nil _ _ _, Below.refl _ _⟩
  | some ad =>
    have hnil := sliceNil (some ad) l.length c
    rw [Option.isNone_some] at hnil
    go_wp2_with (first
      | (at_builtin; refine appPoint _ rfl _ _ rfl w.heap.size _ [] rfl (OwnE.lit _ w.heap.size 33 (Nat.le_refl _)) _ (some ad) _ c l rfl rfl (HS.out.alloc (Nat.le_refl _) _) (by simp; omega) (by simp) ?_; intro A4 c4 L4 w4 hL4 h1 h2 ho4 hb4))
    go_ret
    exact ⟨A4, c4, L4, Lib.hid (by rw [hL4.out]; rfl), rfl, ho4, ((Below.refl _ _).alloc (Nat.le_refl _) _).trans hb4⟩
/-- What the deferred closure leaves behind a panic: the line's copy as the result. -/
def CaughtS (N : Nat) (l : List (Int × Int)) (w w' : World) : Prop :=
  ∃ (A1 : Option Addr) (c1 : Nat) (L : List (Int × Int)) (w1 : World), Hid (L = l) ∧ OwnE 2 encPoint w1 w.heap.size 33 (.slice A1 L.length c1) L ∧ Below w.heap.size w w1 ∧ w' = w1.setCell ⟨N + 1, 0, none⟩ (.slice A1 L.length c1)
theorem catchS_yes (N : Nat) (A : Option Addr) (c : Nat) (l : List (Int × Int)) (u : TypeId) (pv : Value) (w : World) (hk : w.cell? ⟨N, 0, none⟩ = some (.slice A l.length c)) (hN : N + 1 < w.heap.size) (hf : w.frozen? ⟨N + 1, 0, none⟩ = false) (hk1 : w.cell? ⟨N + 1, 0, none⟩ = some (.slice none 0 0)) (hs : SeesE 2 encPoint w w.heap.size A l) (hl : l.length ≤ 549755813888) :
    CallsD Tryd.prog 25 #[.pointer (some ⟨N, 0, none⟩), .pointer (some ⟨N + 1, 0, none⟩)] (.panicking [{ v := .iface u pv, recovered := false }]) w fun e u' w' =>
      e = .returned (.tuple #[]) ∧ u' = .panicking [{ v := .iface u pv, recovered := true }] ∧ CaughtS N l w w' := by
  refine callsD_of_wpS Tryd.func25 rfl fun c₀ cs hu => ?_
  apply wpS_seq
  apply wpS_region
  simp [wpOpsS, go_sem, recoverD, hu, Tryd.ntmps25, Exit.thenS]
  refine wpS_cond (t := true) (by simp [Act.eval, Array.replicate]) ?_
  simp only [if_true]
  refine wpS_of_wp ?_
  simp only [Array.replicate_succ, Array.replicate_zero, List.push_toArray, List.append_toArray, List.nil_append, List.cons_append, List.setIfInBounds_toArray, List.set_cons_zero, List.set_cons_succ]
  go_wp2_with fail
  refine (clone_any A c l _ hs hl).mono ?_
  rintro e w1 ⟨A1, c1, L, hL, rfl, ho1, hb1⟩
  have kk := (hb1.cell (p := ⟨N + 1, 0, none⟩) hN).trans hk1
  have ff := (hb1.frozen (p := ⟨N + 1, 0, none⟩) hN).trans hf
  go_wp2
  cases c₀
  simp_all [bodyPostS, results, Tryd.results25]
  exact ⟨A1, c1, L, w1, hL, ho1, hb1, rfl⟩
theorem catchS_idle (N : Nat) (w : World) :
    CallsD Tryd.prog 25 #[.pointer (some ⟨N, 0, none⟩), .pointer (some ⟨N + 1, 0, none⟩)] .returning w fun e u' w' => e = .returned (.tuple #[]) ∧ u' = .returning ∧ w' = w := by
  refine callsD_of_wpS Tryd.func25 rfl fun c₀ cs hu => ?_
  apply wpS_seq
  apply wpS_region
  simp [wpOpsS, go_sem, recoverD, hu, Tryd.ntmps25, Exit.thenS]
  refine wpS_cond (t := false) (by simp [Act.eval, Array.replicate]) ?_
  simp only [Bool.false_eq_true, if_false]
  refine wpS_of_wp (wp_skip ?_)
  cases c₀
  simp_all [bodyPostS, results, Tryd.results25]
set_option maxRecDepth 100000 in
set_option maxHeartbeats 1000000 in
theorem simplifyLine_any (a0 : Addr) (A : Option Addr) (c : Nat) (l : List (Int × Int)) (n : Int) (w : World) (hE : SimAt a0 w) (hs : SeesE 2 encPoint w w.heap.size A l) (hl : l.length ≤ 549755813888) :
    Calls Tryd.prog 8 #[.slice A l.length c, .int .i64 n] w (GivesE 2 encPoint 33 (simpV l n) w) := by
  have hmf : ∀ (fn : Fn) (first cap : Array Value) (w : World), (Instr.makeFunc fn first cap).run Tryd.prog w = .ok (.func fn first cap) w := fun _ _ _ _ => rfl
  have HV := Lib.hid (Vars.of2 w #[.slice A l.length c] #[.slice none 0 0] 24 24)
  have HS := Lib.hid (hs.belowAll HV.out.1)
  have HE := Lib.hid (hE.all HV.out.1)
  clear hs hE
  go_enter_defers Tryd.func8, Tryd.ntmps8
  by_cases hgood : isLn l = true ∧ inB n 0 200 = true
  · have HN : Hid (simpV l n = simpL l n) := Lib.hid (by unfold simpV; rw [if_pos hgood])
    go_wp2_with fail
    refine (keepPoints_yes A c l n _ HS.out (by omega) hgood.1 hgood.2).mono ?_
    rintro e w1 ⟨A1, c1, L, hL, rfl, ho1, hb1⟩
    have HV1 := Lib.hid (HV.out.next hb1)
    have k1 := HV1.out.c1 (w.heap.size + 1) 1 rfl rfl
    have f1 := HV1.out.frozen (w.heap.size + 1) 1 0 rfl rfl
    have HV2 := Lib.hid (HV1.out.setAt (w.heap.size + 1) 1 0 rfl rfl (.slice A1 L.length c1))
    have k2 := HV2.out.c1 (w.heap.size + 1) 1 rfl rfl
    have HO2 := Lib.hid (ho1.setUnder (b := w.heap.size + 1) (by simp) (.slice A1 L.length c1))
    go_wp2
    refine leaves_cons (f := 25) (args := #[.pointer (some ⟨w.heap.size, 0, none⟩), .pointer (some ⟨w.heap.size + 1, 0, none⟩)]) (by simp) (by simp [go_sem]) ?_
    refine (catchS_idle w.heap.size _).mono ?_
    rintro e u' w'' ⟨rfl, rfl, rfl⟩
    refine ⟨.slice A1 L.length c1, ?_, A1, c1, L, Lib.hid (by rw [hL.out, HN.out]), rfl, HO2.out.mono (by simp; omega), HV2.out.1⟩
    simp [results, Tryd.results8, go_sem, k2]
  · have HN : Hid (simpV l n = l) := Lib.hid (by unfold simpV; rw [if_neg hgood])
    have hbad : isLn l = false ∨ inB n 0 200 = false := by
      cases h1 : isLn l
      · exact .inl rfl
      · cases h2 : inB n 0 200
        · exact .inr rfl
        · exact absurd ⟨h1, h2⟩ hgood
    go_wp2_with fail
    refine (keepPoints_no a0 A c l n _ HE.out HS.out (by omega) hbad).mono ?_
    rintro e w1 ⟨rfl, hb1⟩
    have HV1 := Lib.hid (HV.out.next hb1)
    have HS1 := Lib.hid ((HS.out.below hb1).mono hb1.size)
    go_wp2
    refine leaves_cons (f := 25) (args := #[.pointer (some ⟨w.heap.size, 0, none⟩), .pointer (some ⟨w.heap.size + 1, 0, none⟩)]) (by simp) (by simp [go_sem]) ?_
    refine (catchS_yes w.heap.size A c l _ _ _ (HV1.out.c1 w.heap.size 0 rfl rfl) HV1.out.more2 (HV1.out.frozen (w.heap.size + 1) 1 0 rfl rfl) (HV1.out.c1 (w.heap.size + 1) 1 rfl rfl) HS1.out hl).mono ?_
    rintro e u' w'' ⟨rfl, rfl, A1, c1, L, w3, hL, ho3, hb3, rfl⟩
    have HV3 := Lib.hid ((HV1.out.next hb3).setAt (w.heap.size + 1) 1 0 rfl rfl (.slice A1 L.length c1))
    have k2 := HV3.out.c1 (w.heap.size + 1) 1 rfl rfl
    have HO3 := Lib.hid (ho3.setUnder (b := w.heap.size + 1) HV1.out.more2 (.slice A1 L.length c1))
    refine ⟨.slice A1 L.length c1, ?_, A1, c1, L, Lib.hid (by rw [hL.out, HN.out]), rfl, HO3.out.mono HV1.out.1.size, HV3.out.1⟩
    simp [results, Tryd.results8, go_sem, k2]
set_option maxRecDepth 100000 in
theorem countLeftOut_any (a0 : Addr) (A : Option Addr) (c : Nat) (l : List (Int × Int)) (n : Int) (w : World) (hE : SimAt a0 w) (hs : SeesE 2 encPoint w w.heap.size A l) (hl : l.length ≤ 549755813888) :
    Calls Tryd.prog 10 #[.slice A l.length c, .int .i64 n] w fun e w' => e = .returned (.int .i64 ((l.length : Int) - ((simpV l n).length : Int))) ∧ Below w.heap.size w w' := by
  have HS := Lib.hid hs; clear hs
  have h1 := simpV_len l n
  go_enter Tryd.func10, Tryd.ntmps10
  go_wp2_with (go_at_call 8; refine (simplifyLine_any a0 A c l n _ hE HS.out hl).mono ?_; rintro e w1 ⟨A1, c1, L, hL, rfl, ho1, hb1⟩; have hLl : L.length = (simpV l n).length := congrArg List.length hL.out)
  go_ret
  exact ⟨rfl, hb1⟩
end Go.Proofs.YtpbmngbigdaklaaDoor
end
section
/- Simpler lines: CountLeftOut of the model. -/
namespace Go.Proofs.YtpbmngbigdaklaaDoor
open Go.ChangeShapes Go.WideShapes Go.ChangeAt Go.RowKit
set_option linter.unusedVariables false

set_option maxRecDepth 100000 in
theorem sCountLeftOut_any (A : Option Addr) (c : Nat) (l : List (Int × Int)) (n : Int) (w : World) (hs : SeesE 2 encPoint w w.heap.size A l) (hl : l.length ≤ 1099511627776) :
    Calls Tryd.prog 21 #[.slice A l.length c, .int .i64 n] w fun e w' => e = .returned (.int .i64 ((l.length : Int) - ((simpV l n).length : Int))) ∧ Below w.heap.size w w' := by
  have HS := Lib.hid hs; clear hs
  have h1 := simpV_len l n
  go_enter Tryd.func21, Tryd.ntmps21
  go_wp2_with (go_at_call 16; refine (sSimplifyLine_any A c l n _ HS.out hl).mono ?_; rintro e w1 ⟨A1, c1, L, hL, rfl, ho1, hb1⟩; have hLl : L.length = (simpV l n).length := congrArg List.length hL.out)
  go_ret
  exact ⟨rfl, hb1⟩
end Go.Proofs.YtpbmngbigdaklaaDoor
end
section
/- What the statements list of errNotSimpler, as the walks read it. -/
namespace Go.Proofs.YtpbmngbigdaklaaDoor
open Go.ChangeShapes Go.WideShapes Go.ChangeAt Go.RowKit Go.Stop
set_option linter.unusedVariables false
set_option maxRecDepth 100000

theorem simName : Tryd.prog.globalNamed "loop.example/g03005/impl.errNotSimpler" = some 0 := by kernel_rfl
theorem simType : (Tryd.prog.globals[0]?).map (·.type) = some 90 := by kernel_rfl
theorem simStar : "*" ++ "errors.errorString" = "*errors.errorString" := by decide
theorem simRow (u : TypeId) (h : Tryd.prog.typeName? 3 u = some "*errors.errorString") : u = 109 :=
  typeName_ptr_named (nm := "errors.errorString") (by rw [simStar]; kernel_rfl) (by kernel_rfl) (by decide) u (by rw [simStar]; exact h)
theorem simCells : Tryd.prog.cellsOf 127 = 1 := by kernel_rfl
theorem simStrCells : Tryd.prog.cellsOf 9 = 1 := by kernel_rfl
theorem simAt_of {w : World} (hL : laidMet Tryd.prog [("loop.example/g03005/impl.errNotSimpler", Rows.laid_loop_example_g03005_impl_errNotSimpler)] w) : ∃ a0, SimAt a0 w := by
  obtain ⟨a, s, hv, -, -, -⟩ := laid_sentinel (tp := 109) (te := 127) (ts := 9) hL simName simType Tryd.underlying90 simRow Tryd.underlying109 Tryd.underlying127 rfl rfl Tryd.underlying9 simCells simStrCells
  exact ⟨a, by have := World.var?_cell simName hv 0; simpa [SimAt] using this⟩
theorem simVar_of {w : World} (hL : laidMet Tryd.prog [("loop.example/g03005/impl.errNotSimpler", Rows.laid_loop_example_g03005_impl_errNotSimpler)] w) : ∃ a0, w.var? Tryd.prog "loop.example/g03005/impl.errNotSimpler" = some #[.iface 109 (.pointer (some a0))] := by
  obtain ⟨a, s, hv, -, -, -⟩ := laid_sentinel (tp := 109) (te := 127) (ts := 9) hL simName simType Tryd.underlying90 simRow Tryd.underlying109 Tryd.underlying127 rfl rfl Tryd.underlying9 simCells simStrCells
  exact ⟨a, hv⟩
theorem simVars {H : Type} (enc : TypeId × Value → H) {W : World} {a0 : Addr} (h : W.var? Tryd.prog "loop.example/g03005/impl.errNotSimpler" = some #[.iface 109 (.pointer (some a0))]) (sp : Nat → Bool) :
    DataW.TrodVars enc Tryd.prog W sp ["loop.example/g03005/impl.errNotSimpler"] [tok enc (.iface 109 (.pointer (some a0)))] [.cell 0 0] :=
  vars_read1 enc simName simType Tryd.underlying90 h trivial sp
theorem simVar_below {W W' : World} {a0 : Addr} (h : W.var? Tryd.prog "loop.example/g03005/impl.errNotSimpler" = some #[.iface 109 (.pointer (some a0))]) (hb : Below W.heap.size W W') : W'.var? Tryd.prog "loop.example/g03005/impl.errNotSimpler" = some #[.iface 109 (.pointer (some a0))] :=
  var?_below hb simName (World.block_lt_of_cell? _ _ (World.var?_cell simName h 0)) h
end Go.Proofs.YtpbmngbigdaklaaDoor
end
section
/- markFeatureS and heldFeatureS of the laws. -/
namespace Go.Proofs.YtpbmngbigdaklaaDoor
open Go.ChangeShapes Go.WideShapes Go.ChangeAt Go.RowKit
set_option linter.unusedVariables false

theorem markPoint_z (A : Option Addr) (m c k0 B : Nat) (z : Int) (hz : ((k0 : Nat) : Int) = z) (l : List (Int × Int)) (w : World) (hm : l.length = m) (ho : OwnE 2 encPoint w B 33 (.slice A m c) l) (hl : m ≤ 1099511627776) (hk : k0 ≤ 1099511627776) :
    Calls Tryd.prog 19 #[.slice A m c, .int .i64 z] w fun e w' => ∃ q : Nat, Hid (q = k0 + m * 2) ∧ e = .returned (.int .i64 q) ∧ OwnE 2 encPoint w' B 33 (.slice A m c) (mkPoint k0 m) ∧ w.grownBy w' (Value.ownBlock (.slice A m c)) := by
  subst hz
  exact (markPoint_any A m c k0 B l w hm ho hl hk).mono fun e w' ⟨a, b, d⟩ => ⟨_, Lib.hid rfl, a, b, d⟩
section
variable {w : World} {g cc : Nat} {e : TypeId} {L : List FCel} {j : Nat}
theorem rowF_set3 (h : RowE 5 encF w g e cc L) {y : FCel} (hx : L[j]? = some y) (a k r : Int) :
    RowE 5 encF (((w.setCell ⟨g, j * 5, none⟩ (.int .i64 a)).setCell ⟨g, j * 5 + 1, none⟩ (.int .i64 k)).setCell ⟨g, j * 5 + 2, none⟩ (.int .i64 r)) g e cc (L.set j (a, k, r, y.2.2.2)) := by
  obtain ⟨y0, y1, y2, y3, y4, y5, y6⟩ := y
  have hj := (List.getElem?_eq_some_iff.1 hx).1
  have h1 := h.put elF (k := 0) (x' := (a, y1, y2, y3, y4, y5, y6)) (v := .int .i64 a) hx (by decide) rfl
  have h2 := h1.put elF (k := 1) (x' := (a, k, y2, y3, y4, y5, y6)) (v := .int .i64 k) (List.getElem?_set_self (by simpa using hj)) (by decide) rfl
  have h3 := h2.put elF (k := 2) (x' := (a, k, r, y3, y4, y5, y6)) (v := .int .i64 r) (List.getElem?_set_self (by simpa using hj)) (by decide) rfl
  simp only [List.set_set, Nat.add_zero] at h3
  exact h3
theorem rowF_set4 (h : RowE 5 encF w g e cc L) {y : FCel} (hx : L[j]? = some y) (s : ByteArray) :
    RowE 5 encF (w.setCell ⟨g, j * 5 + 3, none⟩ (.string s)) g e cc (L.set j (y.1, y.2.1, y.2.2.1, s, y.2.2.2.2)) := by
  obtain ⟨y0, y1, y2, y3, y4, y5, y6⟩ := y
  exact h.put elF (k := 3) (x' := (y0, y1, y2, s, y4, y5, y6)) (v := .string s) hx (by decide) rfl
end
end Go.Proofs.YtpbmngbigdaklaaDoor
end
section
/- heldFeatureS of the laws: the marks are found again. -/
namespace Go.Proofs.YtpbmngbigdaklaaDoor
open Go.ChangeShapes Go.WideShapes Go.ChangeAt Go.RowKit
set_option linter.unusedVariables false

end Go.Proofs.YtpbmngbigdaklaaDoor
end
section
/- Features: how much the laws weigh them; equal slices of features. -/
namespace Go.Proofs.YtpbmngbigdaklaaDoor
open Go.ChangeShapes Go.WideShapes Go.ChangeAt Go.RowKit
set_option linter.unusedVariables false

/-- What is left when a feature is weighed; negative if it is too heavy. -/
def szF (left : Int) (f : Feat) : Int := if left < (f.2.2.2.1.size : Int) then -1 else if left - f.2.2.2.1.size < (f.2.2.2.2.length : Int) then -1 else left - f.2.2.2.1.size - f.2.2.2.2.length
def szL : Int → List Feat → Int
  | left, [] => left
  | left, f :: t => if szF left f < 0 then -1 else szL (szF left f) t
theorem szF_le {left : Int} {f : Feat} (h : 0 ≤ szF left f) : szF left f ≤ left ∧ (f.2.2.2.1.size : Int) ≤ left ∧ (f.2.2.2.2.length : Int) ≤ left := by
  unfold szF at h ⊢
  split at h
  · omega
  · split at h
    · omega
    · next h1 h2 => rw [if_neg h1, if_neg h2]; omega
theorem szL_le {left : Int} {l : List Feat} (h : 0 ≤ szL left l) : szL left l ≤ left ∧ ∀ f ∈ l, (f.2.2.2.1.size : Int) ≤ left ∧ (f.2.2.2.2.length : Int) ≤ left := by
  induction l generalizing left with
  | nil => exact ⟨Int.le_refl _, fun f hf => by cases hf⟩
  | cons g t ih =>
    unfold szL at h ⊢
    split at h
    · omega
    · next hz =>
      rw [if_neg hz]
      have h1 := szF_le (left := left) (f := g) (by omega)
      obtain ⟨h2, h3⟩ := ih h
      refine ⟨by omega, fun f hf => ?_⟩
      rw [List.mem_cons] at hf
      rcases hf with rfl | hf
      · exact h1.2
      · have := h3 f hf; omega
/-- The weights of the first j are known. -/
theorem szL_take {left z : Int} {l : List Feat} {j : Nat} {f : Feat} (hf : l[j]? = some f) (h : szL left (l.take j) = z) (hz : 0 ≤ z) : szL left (l.take (j + 1)) = if szF z f < 0 then -1 else szF z f := by
  induction l generalizing left j with
  | nil => simp at hf
  | cons g t ih =>
    cases j with
    | zero =>
      simp only [List.getElem?_cons_zero, Option.some.injEq] at hf
      subst hf
      simp only [List.take_zero, szL] at h
      subst h
      simp only [List.take_succ_cons, List.take_zero, szL]
    | succ j =>
      simp only [List.take_succ_cons, szL] at h ⊢
      split at h
      · omega
      · next hn => rw [if_neg hn]; exact ih (by simpa using hf) h
theorem szL_bad {left : Int} {l : List Feat} {j : Nat} (h : szL left (l.take j) < 0) (hl : 0 ≤ left) : szL left l < 0 := by
  induction l generalizing left j with
  | nil => simp only [List.take_nil] at h; exact h
  | cons g t ih =>
    cases j with
    | zero => simp only [List.take_zero, szL] at h; omega
    | succ j =>
      simp only [List.take_succ_cons, szL] at h ⊢
      split at h
      · next hn => rw [if_pos hn]; omega
      · next hn => rw [if_neg hn]; exact ih h (by omega)
def szS (left : Int) (l : List Feat) : Int := if left < (l.length : Int) then -1 else szL (left - l.length) l
theorem szS_ok {left : Int} {l : List Feat} (h : 0 ≤ szS left l) : (l.length : Int) ≤ left ∧ szS left l ≤ left ∧ ∀ f ∈ l, (f.2.2.2.1.size : Int) ≤ left ∧ (f.2.2.2.2.length : Int) ≤ left := by
  unfold szS at h ⊢
  split at h
  · omega
  · next hn =>
    rw [if_neg hn]
    obtain ⟨h1, h2⟩ := szL_le h
    refine ⟨by omega, by omega, fun f hf => ?_⟩
    have := h2 f hf
    omega
theorem szF_cases (left : Int) (f : Feat) : szF left f = -1 ∨ 0 ≤ szF left f := by
  unfold szF
  split
  · exact .inl rfl
  · split
    · exact .inl rfl
    · next h1 h2 => right; omega
theorem szL_neg {left : Int} {l : List Feat} (h : szL left l < 0) (hl : 0 ≤ left) : szL left l = -1 := by
  induction l generalizing left with
  | nil => simp only [szL] at h; omega
  | cons g t ih =>
    unfold szL at h ⊢
    split
    · rfl
    · next hn => rw [if_neg hn] at h; exact ih h (by omega)
/-- Names and points that a machine holds. -/
def MachF (l : List Feat) : Prop := ∀ (j : Nat) (f : Feat), l[j]? = some f → f.2.2.2.1.size ≤ maxLen ∧ f.2.2.2.2.length ≤ 9223372036854775807
end Go.Proofs.YtpbmngbigdaklaaDoor
end
section
/- How far the marks go. -/
namespace Go.Proofs.YtpbmngbigdaklaaDoor
open Go.ChangeShapes Go.WideShapes Go.ChangeAt Go.RowKit
set_option linter.unusedVariables false

def ptsF : List Feat → Nat
  | [] => 0
  | f :: t => f.2.2.2.2.length + ptsF t
theorem ptsF_app (l l2 : List Feat) : ptsF (l ++ l2) = ptsF l + ptsF l2 := by
  induction l with
  | nil => simp [ptsF]
  | cons f t ih => simp only [List.cons_append, ptsF, ih]; omega
theorem mkFq_eq (l : List Feat) : ∀ k, mkFq k l = k + 4 * l.length + 2 * ptsF l := by
  induction l with
  | nil => intro k; simp [mkFq, ptsF]
  | cons f t ih => intro k; simp only [mkFq, ptsF, ih, mkFn, List.length_cons]; omega
theorem ptsF_sub {l l2 : List Feat} (h : l.Sublist l2) : ptsF l ≤ ptsF l2 := by
  induction h with
  | slnil => exact Nat.le_refl _
  | cons a _ ih => simp only [ptsF]; omega
  | cons_cons a _ ih => simp only [ptsF]; omega
theorem szL_pts (l : List Feat) : ∀ left : Int, 0 ≤ left → 0 ≤ szL left l → (ptsF l : Int) ≤ left := by
  induction l with
  | nil => intro left h _; simpa [ptsF] using h
  | cons f t ih =>
    intro left h0 h
    unfold szL at h
    split at h
    · omega
    · next hn =>
      have h1 := ih (szF left f) (by omega) h
      have h2 : szF left f + f.2.2.2.2.length ≤ left := by
        unfold szF at hn ⊢
        split
        · next h3 => rw [if_pos h3] at hn; omega
        · next h3 =>
          rw [if_neg h3] at hn
          split
          · next h4 => rw [if_pos h4] at hn; omega
          · omega
      simp only [ptsF]
      omega
theorem szS_pts {l : List Feat} {left : Int} (h : 0 ≤ szS left l) : (ptsF l : Int) + l.length ≤ left := by
  unfold szS at h
  split at h
  · omega
  · next hn => have := szL_pts l (left - l.length) (by omega) h; omega
theorem rest_subl (l : List Feat) (i : Int) : (restV l i).Sublist (l.drop (cutK l i)) := rest_sub l i
theorem putOut_pts (l : List Feat) (f : Feat) : ptsF (putOut l f) ≤ ptsF l + f.2.2.2.2.length ∧ (putOut l f).length ≤ l.length + 1 := by
  have h1 : ptsF l = ptsF (l.take (cutK l f.1)) + ptsF (l.drop (cutK l f.1)) := by rw [← ptsF_app, List.take_append_drop]
  have h2 := ptsF_sub (rest_sub l f.1)
  have h3 := (rest_sub l f.1).length_le
  have h4 := cut_le l f.1
  unfold putOut
  rw [ptsF_app, ptsF_app]
  simp only [ptsF, List.length_append, List.length_take, List.length_drop, List.length_cons, List.length_nil] at h3 ⊢
  omega
theorem putV_pts (l : List Feat) (f : Feat) : ptsF (putV l f).1 ≤ ptsF l + f.2.2.2.2.length ∧ (putV l f).1.length ≤ l.length + 1 := by
  unfold putV
  split
  · exact putOut_pts l f
  · exact ⟨Nat.le_add_right _ _, Nat.le_succ _⟩
theorem takeV_pts (l : List Feat) (i : Int) : ptsF (takeV l i).1 ≤ ptsF l ∧ (takeV l i).1.length ≤ l.length := by
  unfold takeV
  split
  · have h1 : ptsF l = ptsF (l.take (findV l i).toNat) + ptsF (l.drop (findV l i).toNat) := by rw [← ptsF_app, List.take_append_drop]
    have hs : (l.drop ((findV l i).toNat + 1)).Sublist (l.drop (findV l i).toNat) := by
      rw [← List.drop_drop]; exact List.drop_sublist _ _
    have h2 := ptsF_sub hs
    rw [ptsF_app]
    simp only [List.length_append, List.length_take, List.length_drop]
    exact ⟨by omega, by omega⟩
  · exact ⟨Nat.le_refl _, Nat.le_refl _⟩
end Go.Proofs.YtpbmngbigdaklaaDoor
end
section
/- Small features, and frames of what a law holds while it marks: for the exact laws. -/
namespace Go.Proofs.YtpbmngbigdaklaaDoor
open Go.ChangeShapes Go.WideShapes Go.ChangeAt Go.RowKit
set_option linter.unusedVariables false

theorem few_pts {l : List Feat} (h : ptsF l ≤ 274877906944) : FewP l := by
  have key : ∀ (l : List Feat) (f : Feat), f ∈ l → f.2.2.2.2.length ≤ ptsF l := by
    intro l
    induction l with
    | nil => intro f h; simp at h
    | cons g t ih =>
      intro f h
      simp only [ptsF]
      rcases List.mem_cons.1 h with rfl | h
      · omega
      · have := ih f h; omega
  intro j f hf
  exact Nat.le_trans (key l f (List.mem_of_getElem? hf)) h
theorem small_le {left : Int} {l : List Feat} (hl : left ≤ 1048576) (h : 0 ≤ szS left l) : l.length ≤ 1048576 ∧ SmallF l ∧ ptsF l ≤ 1048576 ∧ szS left l ≤ left := by
  obtain ⟨h1, h4, h2⟩ := szS_ok h
  have h3 := szS_pts h
  refine ⟨by omega, fun j f hf => ?_, by omega, h4⟩
  have := h2 f (List.mem_of_getElem? hf)
  unfold maxLen
  omega
section
variable {w0 w w' : World} {l : List (Array Value)} {m b lo hi : Nat} {cs : Array Value}
theorem Vars.within (h : Vars w0 w l) (hw : Within lo hi w w') (hlo : w0.heap.size + l.length ≤ lo) : Vars w0 w' l := by
  refine ⟨h.1.trans (hw.below (B := w0.heap.size) (by omega) h.1.size), Nat.le_trans h.2.1 hw.size, fun j x hj => ?_⟩
  have hl : j < l.length := (List.getElem?_eq_some_iff.1 hj).1
  have h2 := h.2.1
  obtain ⟨T, h3⟩ := h.2.2 j x hj
  exact ⟨T, (hw.block _ (by omega) (.inl (by omega))).trans h3⟩
theorem OneV.within (h : OneV m w b cs) (hw : Within lo hi w w') (hb : b < lo ∨ hi ≤ b) : OneV m w' b cs := by
  have hl := h.lt
  obtain ⟨h1, T, h3⟩ := h
  exact ⟨h1, T, (hw.block _ hl hb).trans h3⟩
theorem OneV.five {v0 v1 v2 v3 v4 : Value} (h : OneV m w b #[v0, v1, v2, v3, v4]) : w.cell? ⟨b, 0, none⟩ = some v0 ∧ w.cell? ⟨b, 1, none⟩ = some v1 ∧ w.cell? ⟨b, 2, none⟩ = some v2 ∧ w.cell? ⟨b, 3, none⟩ = some v3 ∧ w.cell? ⟨b, 4, none⟩ = some v4 :=
  ⟨h.cell 0 rfl, h.cell 1 rfl, h.cell 2 rfl, h.cell 3 rfl, h.cell 4 rfl⟩
theorem Vars.fiveAt {v0 v1 v2 v3 v4 : Value} (h : Vars w0 w l) (b j : Nat) (hb : b = w0.heap.size + j) (hj : l[j]? = some #[v0, v1, v2, v3, v4]) : w.cell? ⟨b, 0, none⟩ = some v0 ∧ w.cell? ⟨b, 1, none⟩ = some v1 ∧ w.cell? ⟨b, 2, none⟩ = some v2 ∧ w.cell? ⟨b, 3, none⟩ = some v3 ∧ w.cell? ⟨b, 4, none⟩ = some v4 :=
  ⟨h.cell _ j 0 hb hj rfl, h.cell _ j 1 hb hj rfl, h.cell _ j 2 hb hj rfl, h.cell _ j 3 hb hj rfl, h.cell _ j 4 hb hj rfl⟩
end
theorem HeldE.wits {α : Type} {n : Nat} {enc : α → List Value} {w w' : World} {lo hi : Nat} {e : TypeId} {v : Value} {L : List α} (h : HeldE n enc w lo hi e v L) (hg : w.grownBy w' v.ownBlock) : Within lo hi w w' :=
  Within.grown hg fun g hg' => ⟨(h.1.lt g hg').1, h.2.1 g hg'⟩
theorem HeldE.caps {α : Type} {n : Nat} {enc : α → List Value} {w : World} {lo hi m c : Nat} {e : TypeId} {A : Option Addr} {L : List α} (h : HeldE n enc w lo hi e (.slice A m c) L) : L.length ≤ c ∧ (c : Int) ≤ 9223372036854775807 := (own_caps h.1).2
end Go.Proofs.YtpbmngbigdaklaaDoor
end
section
/- A point as an argument of a law: opened to its two integers. -/
namespace Go.Proofs.YtpbmngbigdaklaaDoor
open Go.ChangeShapes Go.WideShapes Go.ChangeAt Go.RowKit Go.Joins
set_option linter.unusedVariables false

set_option maxRecDepth 100000 in
theorem cellsPt : Tryd.prog.cellsOf 64 = 2 := by kernel_rfl
set_option maxRecDepth 100000 in
theorem open_pt {H : Type} {enc : TypeId × Value → H} {W : World} {base b0 : Nat} {spare : Nat → Bool} {held : Bool} {r : Reach} {v : Value} {d : DataW H} {p : List MemPlace}
    (hv : Value.okWide Tryd.prog W r b0 64 v) (h : DataW.Trod enc Tryd.prog W base spare held 64 v d p) :
    ∃ x y : Int, v = PtV x y ∧ (Lit.int .i64 x).wf = true ∧ (Lit.int .i64 y).wf = true := by
  obtain ⟨c0, c1, y0, y1, m, rfl, rfl, rfl, hy0, hy1⟩ := open_agg2 Tryd.underlying64 (by kernel_rfl) cellsPt hv h
  obtain ⟨a, e0, rfl, wa⟩ := DataW.trod_int Tryd.underlying3 hy0
  obtain ⟨b, e1, rfl, wb⟩ := DataW.trod_int Tryd.underlying3 hy1
  simp at e0 e1
  subst e0 e1
  exact ⟨a, b, rfl, wa, wb⟩
end Go.Proofs.YtpbmngbigdaklaaDoor
end
section
/- A slice of points as an argument of a law: opened to a list of pairs. -/
namespace Go.Proofs.YtpbmngbigdaklaaDoor
open Go.ChangeShapes Go.WideShapes Go.ChangeAt Go.RowKit Go.Joins
set_option linter.unusedVariables false
set_option maxRecDepth 100000

/-- A slice argument that shows l. -/
def ShowsP (w : World) (a : Option Addr) (len : Nat) (l : List (Int × Int)) : Prop := len = l.length ∧ SeesE 2 encPoint w w.heap.size a l ∧ l.length ≤ 9223372036854775807
theorem trod_pt {H : Type} {enc : TypeId × Value → H} {W : World} {base : Nat} {spare : Nat → Bool} {held : Bool} {n : Nat} {cs : List Value} {y : DataW H × List MemPlace}
    (h : DataW.trod enc Tryd.prog W base spare held n 64 cs = some y) : ∃ a b : Int, cs = [.int .i64 a, .int .i64 b] := by
  obtain ⟨y0, y1, m, hx, hlen, h0, h1⟩ := trod_struct2 Tryd.underlying64 h
  obtain ⟨c0, c1, rfl⟩ : ∃ c0 c1, cs = [c0, c1] := by
    rw [cellsPt] at hlen
    match cs, hlen with
    | [c0, c1], _ => exact ⟨c0, c1, rfl⟩
  have hc : Tryd.prog.cellsOf 3 = 1 := by kernel_rfl
  have h0' := h0; have h1' := h1
  simp [hc] at h0'
  simp [hc] at h1'
  obtain ⟨a, e0, -, -⟩ := DataW.trod_int Tryd.underlying3 h0'
  obtain ⟨b, e1, -, -⟩ := DataW.trod_int Tryd.underlying3 h1'
  simp at e0 e1
  subst e0 e1
  exact ⟨a, b, rfl⟩
theorem open_pts {H : Type} {enc : TypeId × Value → H} {W : World} {base b0 : Nat} {spare : Nat → Bool} {held : Bool} {r : Reach} {v : Value} {d : DataW H} {p : List MemPlace}
    (hv : Value.okWide Tryd.prog W r b0 39 v) (h : DataW.Trod enc Tryd.prog W base spare held 39 v d p) :
    ∃ (a : Option Addr) (len cap : Nat) (l : List (Int × Int)), v = .slice a len cap ∧ ShowsP W a len l := by
  obtain ⟨a, len, cap, rfl⟩ := okWide_slice Tryd.underlying39 hv
  obtain ⟨fuel, hf⟩ := h
  rcases DataW.trod_slice Tryd.underlying39 hf with ⟨hcs, -⟩ | ⟨ad, l', c', elems, rest, n, -, hcs, -, hb, hl, hm, hlen, hel, -, -⟩
  · simp [Value.cells] at hcs
    obtain ⟨rfl, rfl, rfl⟩ := hcs
    exact ⟨none, 0, 0, [], rfl, rfl, SeesE.nil, by simp⟩
  · simp [Value.cells] at hcs
    obtain ⟨rfl, rfl, rfl⟩ := hcs
    obtain ⟨b, off, spot⟩ := ad
    have each : ∀ i, i < len → ∃ x : Int × Int, W.cell? ((⟨b, off, spot⟩ : Addr).add (i * 2)) = some (.int .i64 x.1) ∧ W.cell? (((⟨b, off, spot⟩ : Addr).add (i * 2)).add 1) = some (.int .i64 x.2) := by
      intro i hi
      obtain ⟨y, hy⟩ : ∃ y, elems[i]? = some y := ⟨_, List.getElem?_eq_getElem (by omega)⟩
      have h1 := hel i hi
      rw [hy, cellsPt, Option.bind_eq_some_iff] at h1
      obtain ⟨cs, hcs, ht⟩ := h1
      obtain ⟨a, b, rfl⟩ := trod_pt ht
      have h2 := (World.cells?_some hcs).2.2
      exact ⟨(a, b), by have := h2 0 (by omega); simpa [Addr.add] using this, by have := h2 1 (by omega); simpa using this⟩
    have hf2 : ∀ i : Nat, ∃ x : Int × Int, i < len → W.cell? ((⟨b, off, spot⟩ : Addr).add (i * 2)) = some (.int .i64 x.1) ∧ W.cell? (((⟨b, off, spot⟩ : Addr).add (i * 2)).add 1) = some (.int .i64 x.2) := fun i => by
      by_cases hi : i < len
      · obtain ⟨x, hx⟩ := each i hi; exact ⟨x, fun _ => hx⟩
      · exact ⟨(0, 0), fun h => absurd h hi⟩
    let f : Nat → Int × Int := fun i => Classical.choose (hf2 i)
    have hff : ∀ i, i < len → W.cell? ((⟨b, off, spot⟩ : Addr).add (i * 2)) = some (.int .i64 (f i).1) ∧ W.cell? (((⟨b, off, spot⟩ : Addr).add (i * 2)).add 1) = some (.int .i64 (f i).2) := fun i => Classical.choose_spec (hf2 i)
    clear_value f
    refine ⟨_, _, _, (List.range len).map f, rfl, by simp, fun j x hj => ?_, by unfold maxLen at hm; simp; omega⟩
    simp only [List.getElem?_map, Option.map_eq_some_iff] at hj
    obtain ⟨i, hi, rfl⟩ := hj
    have hil : i < len := by have := List.mem_of_getElem? hi; simpa using this
    obtain rfl : i = j := by
      have := (List.getElem?_eq_some_iff.1 hi).2
      simpa using this.symm
    have hspot : spot = none := by
      have h0 := (hff 0 (by omega)).1
      simpa [Addr.add] using World.cell?_spot h0
    subst hspot
    obtain ⟨g0, g1⟩ := hff i hil
    rw [add_none] at g0 g1
    rw [add_none] at g1
    refine ⟨b, off, rfl, World.block_lt_of_cell? W _ g0, fun k u hu => ?_⟩
    match k, hu with
    | 0, hu => simp [encPoint] at hu; subst hu; exact g0
    | 1, hu => simp [encPoint] at hu; subst hu; exact g1
    | k + 2, hu => simp [encPoint] at hu
end Go.Proofs.YtpbmngbigdaklaaDoor
end
section
/- The exact law of CountLeftOut. -/
namespace Go.Proofs.YtpbmngbigdaklaaDoor
open Go.ChangeShapes Go.WideShapes Go.ChangeAt Go.RowKit
set_option linter.unusedVariables false

theorem sCountLeft_is (A : Option Addr) (c : Nat) (l : List (Int × Int)) (n z : Int) (w : World) (hs : SeesE 2 encPoint w w.heap.size A l) (hl : l.length ≤ 1099511627776) (hz : (l.length : Int) - ((simpV l n).length : Int) = z) :
    Calls Tryd.prog 21 #[.slice A l.length c, .int .i64 n] w fun e w' => e = .returned (.int .i64 z) ∧ Below w.heap.size w w' := by
  subst hz; exact sCountLeftOut_any A c l n w hs hl
theorem countLeft_is (a0 : Addr) (A : Option Addr) (c : Nat) (l : List (Int × Int)) (n z : Int) (w : World) (hE : SimAt a0 w) (hs : SeesE 2 encPoint w w.heap.size A l) (hl : l.length ≤ 549755813888) (hz : (l.length : Int) - ((simpV l n).length : Int) = z) :
    Calls Tryd.prog 10 #[.slice A l.length c, .int .i64 n] w fun e w' => e = .returned (.int .i64 z) ∧ Below w.heap.size w w' := by
  subst hz; exact countLeftOut_any a0 A c l n w hE hs hl
set_option maxRecDepth 100000 in
set_option maxHeartbeats 4000000 in
theorem law_FnExactCountLeftOut (pa0 : Option Addr) (len0 cap0 : Nat) (l0 : List (Int × Int)) (a1 : Int) (w : World) (ws0 : ShowsP w pa0 len0 l0) (w1 : (Lit.int .i64 a1).wf = true) (a0 : Addr) (hE : SimAt a0 w) :
    Calls Tryd.prog 5 #[.slice pa0 len0 cap0, .int .i64 a1] w fun e w' => e = .returned (.bool true) ∧ Below w.heap.size w w' := by
  have HE := Lib.hid hE; clear hE
  obtain ⟨rfl, hp0, hm0⟩ := ws0
  have HP0 := Lib.hid hp0; clear hp0
  obtain ⟨z, hR⟩ : ∃ z, (l0.length : Int) - ((simpV l0 a1).length : Int) = z := ⟨_, rfl⟩
  have HI := Lib.hid hR; clear hR
  have HV := Lib.hid (Vars.nil w)
  go_enter Tryd.func5, Tryd.ntmps5
  have hz0 : w.heap.size ≤ w.heap.size := Nat.le_refl _
  have hl0 : (0 : Int) ≤ 1048576 := by omega
  by_cases hc0 : (l0.length : Int) ≤ 1048576
  · skip
    go_wp2_with fail
    refine (szPointS_yes pa0 l0.length cap0 (1048576) _ hc0 (by omega)).mono ?_
    rintro e w9 ⟨rfl, rfl⟩
    have hlt0 : ¬ (1048576 - (l0.length : Int) < 0) := by omega
    go_wp2_with fail
    refine (toPointS_any pa0 cap0 l0 _ ((HP0.out.below HV.out.1).mono HV.out.1.size) (by omega)).mono ?_
    rintro e v2 ⟨At0, ct0, Lt0, hLt0, rfl, hot0, hb⟩
    obtain rfl : l0 = Lt0 := hLt0.out.symm
    have HOt0 := Lib.hid hot0.held; clear hLt0 hot0
    have hz2 := hb.size
    replace HV := Lib.hid (HV.out.next hb)
    clear hb
    go_wp2_with fail
    refine (sCountLeft_is At0 ct0 l0 a1 _ _ (HOt0.out.seesAll elPoint) (by omega) HI.out).mono ?_
    rintro e v3 ⟨rfl, hb⟩
    have hz3 := hb.size
    replace HV := Lib.hid (HV.out.next hb)
    replace HOt0 := Lib.hid (HOt0.out.belowAll hb)
    clear hb
    clear HOt0
    go_wp2_with fail
    refine (toPointS_any pa0 cap0 l0 _ ((HP0.out.below HV.out.1).mono HV.out.1.size) (by omega)).mono ?_
    rintro e v4 ⟨Ax0, cx0, Lx0, hLx0, rfl, hox0, hb⟩
    obtain rfl : l0 = Lx0 := hLx0.out.symm
    have HOx0 := Lib.hid hox0.held; clear hLx0 hox0
    have hz4 := hb.size
    replace HV := Lib.hid (HV.out.next hb)
    clear hb
    go_wp2_with fail
    refine (countLeft_is a0 Ax0 cx0 l0 a1 _ _ (HE.out.all HV.out.1) (HOx0.out.seesAll elPoint) (by omega) HI.out).mono ?_
    rintro e v5 ⟨rfl, hb⟩
    have hz5 := hb.size
    replace HV := Lib.hid (HV.out.next hb)
    replace HOx0 := Lib.hid (HOx0.out.belowAll hb)
    clear hb
    go_wp2_with fail
    refine (toPointS_any pa0 cap0 l0 _ ((HP0.out.below HV.out.1).mono HV.out.1.size) (by omega)).mono ?_
    rintro e v6 ⟨Ay, cy, Ly, hLy, rfl, hoy, hb⟩
    obtain rfl : l0 = Ly := hLy.out.symm
    have HOy := Lib.hid hoy.held; clear hLy hoy
    have hz6 := hb.size
    replace HV := Lib.hid (HV.out.next hb)
    replace HOx0 := Lib.hid (HOx0.out.belowAll hb)
    clear hb
    go_wp2_with fail
    refine (eqPointS_yes Ax0 Ay cx0 cy l0 l0 _ (HOx0.out.seesAll elPoint) (HOy.out.seesAll elPoint) rfl (by omega)).mono ?_
    rintro e v7 ⟨rfl, hb⟩
    have hz7 := hb.size
    replace HV := Lib.hid (HV.out.next hb)
    replace HOx0 := Lib.hid (HOx0.out.belowAll hb)
    replace HOy := Lib.hid (HOy.out.belowAll hb)
    clear hb
    clear HOy
    go_wp2
    go_ret
    exact ⟨rfl, HV.out.1⟩
  · go_wp2_with fail
    refine (szPointS_no pa0 l0.length cap0 (1048576) _ (by omega) (by omega) (by omega)).mono ?_
    rintro e w9 ⟨rfl, rfl⟩
    go_wp2
    go_ret
    exact ⟨rfl, HV.out.1⟩
theorem law_FnExactCountLeftOut_laid (w : World) (pa0 : Option Addr) (len0 cap0 : Nat) (l0 : List (Int × Int)) (ws0 : ShowsP w pa0 len0 l0) (a1 : Int) (w1 : (Lit.int .i64 a1).wf = true) (hL : laidMet Tryd.prog Rows.fnExactCountLeftOutRow.laid w) :
    Calls Tryd.prog 5 #[.slice pa0 len0 cap0, .int .i64 a1] w fun e w' => e = .returned (.bool true) ∧ Below w.heap.size w w' := by
  obtain ⟨a0, hE⟩ := simAt_of hL
  exact law_FnExactCountLeftOut pa0 len0 cap0 l0 a1 w ws0 w1 a0 hE
end Go.Proofs.YtpbmngbigdaklaaDoor
end
section
namespace Go.Proofs.YtpbmngbigdaklaaDoor.fnExactCountLeftOut
open Go.ChangeShapes Go.WideShapes Go.ChangeAt Go.WideMaps Go.WideElems Go.RowKit
open Go.ChangeMaps (open_string shut_string)
set_option linter.unusedVariables false

theorem own : ownKnob Tryd.prog.godebug = none := by kernel_rfl
theorem laidOut : laidOutB Tryd.prog = true := by kernel_rfl

/-- What the package-level variables hold behind the program's own initialisers meets the row's condition. -/
theorem door_met (os : Os) (args : Array Value) : laidMetH Tryd.prog Rows.fnExactCountLeftOutRow.laid ((World.doorLaid Tryd.prog 28 os).forCall (fun _ _ => 0) ⟨#[], args, []⟩).memory :=
  laidMetH_of_parts3 (fuel := 8) (laidMet_of_run' 8 (by kernel_rfl) (by kernel_rfl)) (by kernel_rfl) (by kernel_rfl)

set_option maxRecDepth 100000 in
theorem lifted (os : Os) (started : os.Started) (H : Type) (enc : TypeId × Value → H) :
    ReturnsInHanded {} Tryd.checked os 5 .any (fun w args => (Rows.fnExactCountLeftOutSpec.pre enc Tryd.prog Tryd.f5 [] false w args ∧ laidMetH Tryd.prog Rows.fnExactCountLeftOutRow.laid w) ∧ sizedMet enc Tryd.prog Tryd.f5 (OpenSpec.ofChange Rows.fnExactCountLeftOutSpec) false w args)
      (Rows.fnExactCountLeftOutSpec.post enc Tryd.prog Tryd.f5 false true false false) := by
  refine returnsInHanded_of_change_and (C := Tryd.checked) (X := fun w _ => laidMetH Tryd.prog Rows.fnExactCountLeftOutRow.laid w) (fun _ _ _ hh h => h.of_heap hh) own started (by kernel_rfl) Tryd.func5
    (ChangeSpec.witness_shaped (enc := enc) (C := Tryd.checked) (os := os) (X := fun w _ => laidMetH Tryd.prog Rows.fnExactCountLeftOutRow.laid w) false (World.doorLaid Tryd.prog 28 os) #[.slice none 0 0, .int .i64 0] 8 rfl (World.shaped_of_RefB (by kernel_rfl) (by kernel_rfl)) (by kernel_rfl) (by kernel_rfl) (by kernel_rfl) (door_met os _)) ?_
  intro W base args ds gs before hval0 hW _ hsz0 hL0 _
  have hsz : (DataW.weightsEach Tryd.prog (Tryd.f5.params.toList ++ Rows.fnExactCountLeftOutSpec.plain.varTypes Tryd.prog) (ds ++ gs)).all (· ≤ reachBytes) = true := hsz0
  clear hsz0
  have hL : laidMet Tryd.prog Rows.fnExactCountLeftOutRow.laid W := by rw [MakeChecks.laidMetH_plain _ _ _ (by kernel_rfl)] at hL0; exact hL0
  have hval : ∀ (j : Nat) t v, Tryd.f5.params[j]? = some t → args[j]? = some v → Value.okWide Tryd.prog W .any base t v := hval0
  have hW' := hW
  obtain ⟨p, q, hA0, hV, rfl, hfz, hnd⟩ := hW
  have hA : DataW.TrodAll enc Tryd.prog W 0 (fun _ => true) true Tryd.f5.params.toList args.toList ds p := hA0
  rw [Tryd.params5] at hA hval hsz
  obtain ⟨v0, vs0, d0, ds0, p0, q0, hargs, rfl, rfl, h0, r0⟩ := trodAll_cons hA
  obtain ⟨v1, vs1, d1, ds1, p1, q1, rfl, rfl, rfl, h1, r1⟩ := trodAll_cons r0
  obtain ⟨rfl, rfl, rfl⟩ := trodAll_nil r1
  obtain rfl : args = #[v0, v1] := by cases args; simp_all
  obtain ⟨a0, hv0⟩ := simVar_of hL
  have hV1 : DataW.TrodVars enc Tryd.prog W (fun _ => true) ["loop.example/g03005/impl.errNotSimpler"] gs q := hV
  obtain ⟨rfl, rfl⟩ := hV1.unique (simVars enc hv0 _)
  have k0 := h0
  have lt0 : ∀ x ∈ p0, x.block < W.heap.size := by obtain ⟨m, hm⟩ := k0; exact DataW.trod_lt m _ _ _ hm
  obtain ⟨pa0, len0, cap0, l0, rfl, ws0⟩ := open_pts (hval 0 39 v0 rfl rfl) h0
  obtain ⟨a1, rfl, rfl, rfl, w1⟩ := open_int Tryd.underlying3 (hval 1 3 v1 rfl rfl) h1
  clear hA0 hval0
  refine (law_FnExactCountLeftOut_laid W pa0 len0 cap0 l0 ws0 a1 w1 hL).mono fun e W' ⟨he, bel⟩ => ?_
  subst he
  exact ⟨_, rfl, _, _, _, [], _, _, hW', trodAll_mk1 (shut_bool Tryd.underlying4 _), (trodAll_cons_mk (Below.trod laidOut (by kernel_rfl) (of_decide_eq_true (by kernel_rfl)) k0 bel lt0) (trodAll_cons_mk (shut_int Tryd.underlying3 w1) trodAll_mk0)), simVars enc (simVar_below hv0 bel) _, bel.frame _, fun h => by cases h⟩

theorem over : Rows.fnExactCountLeftOutRow.holds Tryd.pinned (OpenSpec.ofChange Rows.fnExactCountLeftOutSpec) :=
  OpenClaim.holds_of_wide 5 Tryd.f5 rfl rfl rfl rfl rfl rfl rfl ⟨rfl, rfl, rfl, rfl, rfl⟩ rfl rfl rfl rfl rfl (by kernel_rfl) Tryd.func5 (by kernel_rfl)
    (of_decide_eq_true (by kernel_rfl)) (by unfold Func.isWrapper; first | (rw [if_pos (by decide +kernel)]; kernel_rfl) | (rw [if_neg (by decide +kernel)]; exact ⟨rfl, rfl⟩))
    (fun os started H enc _ => lifted os started H enc)

/-- THE STATEMENT. -/
theorem proved : Rows.FnExactCountLeftOutCardSaid :=
  Claim7.holds_tied_plain_at .later [] [.sentinel] true (true, "f9a3822cea048bdab47f6b4598cb5dc05333cce5a8d99a014b0ddc21cc242c30") true
    over (fun _ h => by cases h) (by kernel_rfl) (fun _ h => by cases h) fnExactCountLeftOut_row_tie rfl ⟨rfl, rfl⟩ (by kernel_rfl) rfl
    (fun f fn hf hfn => by
      obtain rfl : f = 5 := Option.some.inj ((show Tryd.prog.funcNamed "loop.example/g03005/laws.FnExactCountLeftOut" = some 5 by kernel_rfl).symm.trans hf) |>.symm
      obtain rfl : fn = Tryd.f5 := (Option.some.inj (Tryd.func5.symm.trans hfn)).symm
      exact ⟨by kernel_rfl, fun j t ht => by
        rw [Tryd.params5] at ht
        have hm : t ∈ [39, 3] := by simpa using Array.mem_of_getElem? ht
        have hall : ([39, 3].all fun u => !Tryd.prog.wantsStandIn u) = true := by kernel_rfl
        exact (show Tryd.prog.wantsStandIn t = false by simpa using List.all_eq_true.1 hall t hm)⟩)
    (by kernel_rfl)
#print axioms proved
end Go.Proofs.YtpbmngbigdaklaaDoor.fnExactCountLeftOut
end
