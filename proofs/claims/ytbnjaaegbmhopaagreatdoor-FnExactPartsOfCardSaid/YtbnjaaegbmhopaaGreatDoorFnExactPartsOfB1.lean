/- A feature, and a slice of features, as arguments of a law. -/
import Derived.Test.YtbnjaaegbmhopaaGreatDoorLineS1
import Derived.Test.YtbnjaaegbmhopaaGreatDoorLineJ
import Derived.Test.YtbnjaaegbmhopaaGreatDoorSegCall
import Derived.Test.YtbnjaaegbmhopaaGreatDoorRingT
import Derived.Test.YtbnjaaegbmhopaaGreatDoorStepE
import Derived.Test.YtbnjaaegbmhopaaGreatDoorRingI
import Derived.Test.YtbnjaaegbmhopaaGreatDoorFeatS
import Derived.Deep.RegionHeld3
import Derived.Deep.DeepCutAuto
import Derived.Test.YtbnjaaegbmhopaaGreatDoorLine
import Derived.Test.YtbnjaaegbmhopaaGreatDoorHelpE
import Derived.LoopTactic
import Derived.Shelf.Abstract
import Derived.Test.YtbnjaaegbmhopaaGreatDoorLineL
import Derived.Test.YtbnjaaegbmhopaaGreatDoorTurn
import Derived.Test.YtbnjaaegbmhopaaGreatDoorTabs
import Derived.Test.YtbnjaaegbmhopaaGreatDoorPartV
import Derived.Test.YtbnjaaegbmhopaaGreatDoorOneVar
import Derived.Deep.LoopGhost
import Derived.Test.YtbnjaaegbmhopaaGreatDoorRows
import Derived.Test.YtbnjaaegbmhopaaGreatDoorJoin
import Derived.Stop.LaidErr
import Derived.LaidMore
import Derived.Test.YtbnjaaegbmhopaaGreatDoorFeatM
import Derived.Test.YtbnjaaegbmhopaaGreatDoorPoint2
import Derived.Test.YtbnjaaegbmhopaaGreatDoorVars2
import Derived.Test.YtbnjaaegbmhopaaGreatDoorInt
import Derived.Lib.Hide
import Derived.Laws.IdiomStrings
import Derived.Laws.Concat
import Derived.WalkLawsBesides
import Derived.WalkSpells
import Derived.Test.YtbnjaaegbmhopaaGreatDoorPoint
import Derived.Lib.SmallJoins
import Derived.OpenShut
import Derived.ChangeArms
import Derived.ChangeSame
import Derived.ShutString
section
/- Lines: SegmentsOf and LineSteps of the model. -/
namespace Go.Proofs.YtbnjaaegbmhopaaGreatDoor
open Go.ChangeShapes Go.WideShapes Go.ChangeAt Go.RowKit
set_option linter.unusedVariables false

theorem keepA {w : World} {p : Addr} {v : Value} (h : w.cell? p = some v) (o : Obj) : (w.alloc o).cell? p = some v :=
  (World.cell?_of_block (Below.heap_alloc _ _ _ (World.block_lt_of_cell? w p h))).trans h
theorem sizeA (w : World) (o : Obj) : w.heap.size ≤ (w.alloc o).heap.size := by simp
/-- append of one segment, as one step of a region that draws its order. -/
theorem stepSegment (w : World) {ops : Array Oper} {o : Oper} {a : Act} {K : Act → World → Prop} {Q : Exit → Act → World → Prop} {E : Prop} (hgd : o.guard = none) (s x : Operand)
    (ho : o.op = .call { callee := .builtin .append, args := #[s, x], argTypes := #[38, 38] })
    (base : Nat) (v : Value) (l : List (Int × Int × Int × Int)) (hv : a.eval s = v) (hown : OwnE 4 encSegment w base 78 v l)
    (B : Nat) (A : Option Addr) (m c : Nat) (l2 : List (Int × Int × Int × Int)) (hx : a.eval x = .slice A m c) (hm : m = l2.length) (hs : SeesE 4 encSegment w B A l2) (h63 : l.length + l2.length ≤ 1099511627776) (hbase : base ≤ w.heap.size)
    (h : ∀ A' c' L w', Hid (L = l ++ l2) → L.length ≤ l.length + l2.length → l.length + l2.length ≤ L.length → OwnE 4 encSegment w' base 78 (.slice A' L.length c') L → Below base w w' → K (a.put o.dst (.slice A' L.length c')) w') :
    if Region.wanted o (yielded ops a.tmps) = true then Oper.wp Tryz.prog o a w K Q else E := by
  have hw : Region.wanted o (yielded ops a.tmps) = true := by simp [Region.wanted, hgd]
  rw [if_pos hw]
  obtain ⟨i, hi, hz, h1, h2⟩ := info_parts infoSegment
  exact wp_appE w elSegment s x _ ho _ i _ 32 Tryz.underlying38 hi hz h1 h2 rfl base v l hv hown B A m c l2 hx hm hs h63 (by decide) hbase h
def SoRel (l : List (Int × Int)) (w : World) (v i : Value) (wr : World) : Prop :=
  ∃ (A : Option Addr) (c : Nat) (L : List (Int × Int × Int × Int)) (j : Nat), v = .slice A L.length c ∧ i = .int .i64 ((j : Int) + 1) ∧ (isLn l = false → j = 0) ∧ (j = 0 ∨ j ≤ (jts l).length) ∧ Hid (L = (sgV l).take j) ∧ L.length = j ∧ OwnE 4 encSegment wr w.heap.size 78 (.slice A L.length c) L ∧ Below w.heap.size w wr
theorem so_step {S L L2 : List (Int × Int × Int × Int)} {j : Nat} {x : Int × Int × Int × Int} (hL : L = S.take j) (h : L2 = L ++ [x]) (hx : S[j]? = some x) : L2 = S.take (j + 1) := by
  rw [h, hL, List.take_add_one, hx]; rfl
set_option maxRecDepth 100000 in
set_option maxHeartbeats 4000000 in
theorem sSegmentsOf_any (A : Option Addr) (c : Nat) (l : List (Int × Int)) (w : World) (hs : SeesE 2 encPoint w w.heap.size A l) (hl : l.length ≤ 1099511627776) :
    Calls Tryz.prog 63 #[.slice A l.length c] w (GivesE 4 encSegment 78 (sgV l) w) := by
  have HS := Lib.hid hs; clear hs
  go_enter Tryz.func63, Tryz.ntmps63
  go_wp2
  go_loopw [3, 4] (fun v i wr => SoRel l w v i wr) (fun _ i _ => l.length - (intOf i).toNat)
  case atStart => exact ⟨_, _, [], 0, rfl, by go_num, fun _ => rfl, .inl rfl, Lib.hid (by simp), rfl, OwnE.lit w _ _ (Nat.le_refl _), (Below.refl _ _).alloc (Nat.le_refl _) _⟩
  case round =>
    obtain ⟨A1, c1, L, j, rfl, rfl, hi0, hj, hL, hn, ho, hb⟩ := hrel
    have HB := Lib.hid hb; clear hb
    have HO := Lib.hid ho; clear ho
    have hsz := HB.out.size
    have hjl := jts_len l
    have HN := Lib.hid hn; clear hn
    by_cases hlt : j + 1 < l.length
    · have hji : (j : Int) + 1 < (l.length : Int) := by omega
      cases hi : isLn l
      · obtain rfl := hi0 hi
        go_wp2_with (go_at_call 106; refine (sIsLine_is A c l _ ((HS.out.below HB.out).mono HB.out.size) hl _ hi).mono ?_; rintro e w9 ⟨rfl, hb9⟩)
        go_ret
        refine ⟨A1, c1, L, Lib.hid ?_, rfl, HO.out.belowAll hb9, HB.out.trans (hb9.mono HB.out.size)⟩
        rw [hL.out, sgV_no hi]; rfl
      · obtain ⟨x0, x1, y0, y1, hx, hy, hjx⟩ := jts_at hlt
        have hxl : (jts l)[j]? = (sgV l)[j]? := by rw [sgV_yes hi]
        rw [hxl] at hjx
        have HX := Lib.hid hx; have HY := Lib.hid hy; have HJ := Lib.hid hjx
        obtain ⟨b, off, rfl, hbl, -⟩ := HS.out j _ hx
        clear hx hy hjx hxl
        have hw : IntKind.i64.wrap (j : Int) = j := IntWalk.i64_in _ (by omega)
        have hnn : (0 : Int) ≤ (j : Int) + 1 := by omega
        have hkl : (j : Int) < (l.length : Int) := by omega
        have hone : L.length + [(x0, x1, y0, y1)].length ≤ 1099511627776 := by have := HN.out; simp; omega
        go_wp2_with (go_at_call 106; refine (sIsLine_is _ c l _ ((HS.out.below HB.out).mono HB.out.size) hl _ hi).mono ?_; rintro e w9 ⟨rfl, hb9⟩; have HB9 := Lib.hid (HB.out.trans (hb9.mono HB.out.size)); have HO9 := Lib.hid (HO.out.belowAll hb9).drew; obtain ⟨k0, k1⟩ := cellsPoint (HS.out.below HB9.out) HX.out; obtain ⟨k2, k3⟩ := cellsPoint (HS.out.below HB9.out) HY.out)
        have hz9 : w.heap.size ≤ w9.drew.heap.size := HB9.out.size
        go_region_held3 (fun w' => w'.cell? ⟨b, off + j * 2, none⟩ = some (.int .i64 x0) ∧ w'.cell? ⟨b, off + j * 2 + 1, none⟩ = some (.int .i64 x1) ∧ w'.cell? ⟨b, off + (j + 1) * 2, none⟩ = some (.int .i64 y0) ∧ w'.cell? ⟨b, off + (j + 1) * 2 + 1, none⟩ = some (.int .i64 y1)) (first | exact ⟨k0, k1, k2, k3⟩ | exact ⟨keepA k0 _, keepA k1 _, keepA k2 _, keepA k3 _⟩ | exact hc4) (first
          | (refine stepSegment _ rfl _ _ rfl w.heap.size _ L rfl (HO9.out.alloc _) (w9.drew.heap.size + 1) _ 1 _ [(x0, x1, y0, y1)] rfl rfl (seesE_new elSegment w9.drew (x0, x1, y0, y1) _ _ _ (Nat.lt_succ_self _) rfl) hone (Nat.le_trans hz9 (sizeA _ _)) ?_; intro A4 c4 L4 w4 hL4 h1 h2 ho4 hb4; have hc4 := And.intro ((hb4.cell (p := ⟨b, off + j * 2, none⟩) hbl).trans (keepA k0 _)) (And.intro ((hb4.cell (p := ⟨b, off + j * 2 + 1, none⟩) hbl).trans (keepA k1 _)) (And.intro ((hb4.cell (p := ⟨b, off + (j + 1) * 2, none⟩) hbl).trans (keepA k2 _)) ((hb4.cell (p := ⟨b, off + (j + 1) * 2 + 1, none⟩) hbl).trans (keepA k3 _))))) | fail)
        go_wp2
        go_roundw
        case rel => exact ⟨A4, c4, L4, j + 1, rfl, by go_num, fun h => (by rw [hi] at h; cases h), .inr (by omega), Lib.hid (so_step hL.out hL4.out HJ.out), by have := HN.out; simp at h1 h2; omega, ho4, HB9.out.drew.trans (((Below.refl _ _).alloc hz9 _).trans hb4)⟩
        case measure => simp [intOf]; omega
    · have hji : ¬ ((j : Int) + 1 < (l.length : Int)) := by omega
      go_wp2
      go_ret
      refine ⟨A1, c1, L, Lib.hid ?_, rfl, HO.out, HB.out⟩
      rw [hL.out]
      cases hi : isLn l
      · rw [sgV_no hi, List.take_nil]
      · have := isLn_yes hi
        rw [sgV_yes hi]; exact List.take_of_length_le (by omega)
theorem stpV_step {L : List (Int × Int × Int × Int)} {j : Nat} {x : Int × Int × Int × Int} (hx : L[j]? = some x) : stpV (L.take j) + stS x = stpV (L.take (j + 1)) := by
  rw [List.take_add_one, hx]; exact (stpV_snoc _ _).symm
end Go.Proofs.YtbnjaaegbmhopaaGreatDoor
end
section
/- Lines: IsSimple and LinesMeet of the model. -/
namespace Go.Proofs.YtbnjaaegbmhopaaGreatDoor
open Go.ChangeShapes Go.WideShapes Go.ChangeAt Go.RowKit
set_option linter.unusedVariables false

set_option maxRecDepth 100000 in
set_option maxHeartbeats 8000000 in
theorem sIsSimple_is (A : Option Addr) (c : Nat) (l : List (Int × Int)) (w : World) (hs : SeesE 2 encPoint w w.heap.size A l) (hl : l.length ≤ 1099511627776) (z : Bool) (hz : smpV l = z) :
    Calls Tryz.prog 104 #[.slice A l.length c] w fun e w' => e = .returned (.bool z) ∧ Below w.heap.size w w' := by
  have HS := Lib.hid hs; clear hs
  go_enter Tryz.func104, Tryz.ntmps104
  go_wp2_with (go_at_call 63; refine (sSegmentsOf_any A c l _ HS.out hl).mono ?_; rintro e w1 ⟨A1, c1, L, hL, rfl, ho1, hb1⟩)
  have HO1 := Lib.hid ho1; have HB1 := Lib.hid hb1
  have h9 : L.length ≤ 9 := by rw [hL.out]; exact sgV_len l
  have HL := hL
  have HZ := Lib.hid hz
  clear ho1 hb1 hL hz
  go_loopw [4] (fun i wr => ∃ j : Nat, j ≤ L.length ∧ i = .int .i64 j ∧ Hid (∀ k, k < j → ∀ i, i < k → mtOk (sgV l) i k = true) ∧ Hid (OwnE 4 encSegment wr w.heap.size 78 (.slice A1 L.length c1) L) ∧ Hid (Below w.heap.size w wr)) (fun i _ => L.length - (intOf i).toNat)
  case atStart => exact ⟨0, Nat.zero_le _, rfl, Lib.hid (fun k hk => by omega), HO1, HB1⟩
  case round =>
    obtain ⟨i, hi, rfl, hp, HO, HB⟩ := hrel
    clear HO1 HB1
    by_cases hlt : i < L.length
    · have hli : (i : Int) < (L.length : Int) := by omega
      go_wp2
      go_loopw [5] (fun k wx => ∃ j : Nat, j ≤ i ∧ k = .int .i64 j ∧ Hid (∀ q, q < j → mtOk (sgV l) q i = true) ∧ Hid (OwnE 4 encSegment wx w.heap.size 78 (.slice A1 L.length c1) L) ∧ Hid (Below w.heap.size w wx)) (fun k _ => i - (intOf k).toNat)
      case atStart => exact ⟨0, Nat.zero_le _, rfl, Lib.hid (fun k hk => by omega), HO, HB⟩
      case round =>
        obtain ⟨j, hj, rfl, hq, HO, HB⟩ := hrel
        by_cases hlj : j < i
        · have hlj' : (j : Int) < (L.length : Int) := by omega
          obtain ⟨b, off, v, rfl, hbl, hv, -⟩ := (HO.out.sees elSegment).lt hlt
          obtain ⟨u, hu⟩ : ∃ u, L[j]? = some u := ⟨_, List.getElem?_eq_getElem (by omega)⟩
          obtain ⟨k0, k1, k2, k3⟩ := cells4 (HO.out.sees elSegment) hu
          obtain ⟨k4, k5, k6, k7⟩ := cells4 (HO.out.sees elSegment) hv
          have HU := Lib.hid hu; have HV := Lib.hid hv
          have HU' : Hid ((sgV l)[j]? = some u) := Lib.hid (by rw [← HL.out]; exact hu)
          have HV' : Hid ((sgV l)[i]? = some v) := Lib.hid (by rw [← HL.out]; exact hv)
          clear hu hv
          obtain ⟨m, hm⟩ : ∃ m, howS v u = m := ⟨_, rfl⟩
          have HM : Hid (howS u v = m) := Lib.hid (by rw [← hm]; exact howS_comm v u)
          by_cases he : j + 1 = i
          · have he' : (j : Int) + 1 = (i : Int) := by omega
            have HWn : Hid (wantS j i = 1) := Lib.hid (if_pos he)
            by_cases h1 : m = 1
            · subst h1
              go_wp2
              go_region_held3 (fun w' => (w'.cell? ⟨b, off + j * 4, none⟩ = some (.int .i64 u.1) ∧ w'.cell? ⟨b, off + j * 4 + 1, none⟩ = some (.int .i64 u.2.1) ∧ w'.cell? ⟨b, off + j * 4 + 2, none⟩ = some (.int .i64 u.2.2.1) ∧ w'.cell? ⟨b, off + j * 4 + 3, none⟩ = some (.int .i64 u.2.2.2)) ∧ (w'.cell? ⟨b, off + i * 4, none⟩ = some (.int .i64 v.1) ∧ w'.cell? ⟨b, off + i * 4 + 1, none⟩ = some (.int .i64 v.2.1) ∧ w'.cell? ⟨b, off + i * 4 + 2, none⟩ = some (.int .i64 v.2.2.1) ∧ w'.cell? ⟨b, off + i * 4 + 3, none⟩ = some (.int .i64 v.2.2.2))) (first | exact ⟨⟨k0, k1, k2, k3⟩, ⟨k4, k5, k6, k7⟩⟩ | exact hQ) (first
                | (go_at_call 113; refine (sHowS_is v u _ _ hm).mono ?_; rintro e w9 ⟨rfl, hb9⟩; have HB9 := Lib.hid (HB.out.drew.trans (hb9.mono HB.out.size)); have HO9 := Lib.hid ((HO.out.drew).belowAll hb9); have hQ := And.intro (cells4 (HO9.out.sees elSegment) HU.out) (cells4 (HO9.out.sees elSegment) HV.out)) | fail)
              all_goals
                go_wp2
                go_roundw
                case rel => exact ⟨j + 1, by omega, by go_num, Lib.hid (upto_step hq.out (smp_ok HU'.out HV'.out (HM.out.trans HWn.out.symm))), HO9, HB9⟩
                case measure => simp [intOf]; omega
            · obtain rfl : z = false := HZ.out.symm.trans (smp_no HU'.out HV'.out hlj (by rw [HM.out, HWn.out]; exact h1))
              go_wp2
              go_region_held3 (fun w' => (w'.cell? ⟨b, off + j * 4, none⟩ = some (.int .i64 u.1) ∧ w'.cell? ⟨b, off + j * 4 + 1, none⟩ = some (.int .i64 u.2.1) ∧ w'.cell? ⟨b, off + j * 4 + 2, none⟩ = some (.int .i64 u.2.2.1) ∧ w'.cell? ⟨b, off + j * 4 + 3, none⟩ = some (.int .i64 u.2.2.2)) ∧ (w'.cell? ⟨b, off + i * 4, none⟩ = some (.int .i64 v.1) ∧ w'.cell? ⟨b, off + i * 4 + 1, none⟩ = some (.int .i64 v.2.1) ∧ w'.cell? ⟨b, off + i * 4 + 2, none⟩ = some (.int .i64 v.2.2.1) ∧ w'.cell? ⟨b, off + i * 4 + 3, none⟩ = some (.int .i64 v.2.2.2))) (first | exact ⟨⟨k0, k1, k2, k3⟩, ⟨k4, k5, k6, k7⟩⟩ | exact hQ) (first
                | (go_at_call 113; refine (sHowS_is v u _ _ hm).mono ?_; rintro e w9 ⟨rfl, hb9⟩; have HB9 := Lib.hid (HB.out.drew.trans (hb9.mono HB.out.size)); have HO9 := Lib.hid ((HO.out.drew).belowAll hb9); have hQ := And.intro (cells4 (HO9.out.sees elSegment) HU.out) (cells4 (HO9.out.sees elSegment) HV.out)) | fail)
              all_goals
                go_wp2
                go_ret
                exact ⟨rfl, HB9.out⟩
          · have he' : ¬ ((j : Int) + 1 = (i : Int)) := by omega
            have HWn : Hid (wantS j i = 0) := Lib.hid (if_neg he)
            by_cases h1 : m = 0
            · subst h1
              go_wp2
              go_region_held3 (fun w' => (w'.cell? ⟨b, off + j * 4, none⟩ = some (.int .i64 u.1) ∧ w'.cell? ⟨b, off + j * 4 + 1, none⟩ = some (.int .i64 u.2.1) ∧ w'.cell? ⟨b, off + j * 4 + 2, none⟩ = some (.int .i64 u.2.2.1) ∧ w'.cell? ⟨b, off + j * 4 + 3, none⟩ = some (.int .i64 u.2.2.2)) ∧ (w'.cell? ⟨b, off + i * 4, none⟩ = some (.int .i64 v.1) ∧ w'.cell? ⟨b, off + i * 4 + 1, none⟩ = some (.int .i64 v.2.1) ∧ w'.cell? ⟨b, off + i * 4 + 2, none⟩ = some (.int .i64 v.2.2.1) ∧ w'.cell? ⟨b, off + i * 4 + 3, none⟩ = some (.int .i64 v.2.2.2))) (first | exact ⟨⟨k0, k1, k2, k3⟩, ⟨k4, k5, k6, k7⟩⟩ | exact hQ) (first
                | (go_at_call 113; refine (sHowS_is v u _ _ hm).mono ?_; rintro e w9 ⟨rfl, hb9⟩; have HB9 := Lib.hid (HB.out.drew.trans (hb9.mono HB.out.size)); have HO9 := Lib.hid ((HO.out.drew).belowAll hb9); have hQ := And.intro (cells4 (HO9.out.sees elSegment) HU.out) (cells4 (HO9.out.sees elSegment) HV.out)) | fail)
              all_goals
                go_wp2
                go_roundw
                case rel => exact ⟨j + 1, by omega, by go_num, Lib.hid (upto_step hq.out (smp_ok HU'.out HV'.out (HM.out.trans HWn.out.symm))), HO9, HB9⟩
                case measure => simp [intOf]; omega
            · obtain rfl : z = false := HZ.out.symm.trans (smp_no HU'.out HV'.out hlj (by rw [HM.out, HWn.out]; exact h1))
              go_wp2
              go_region_held3 (fun w' => (w'.cell? ⟨b, off + j * 4, none⟩ = some (.int .i64 u.1) ∧ w'.cell? ⟨b, off + j * 4 + 1, none⟩ = some (.int .i64 u.2.1) ∧ w'.cell? ⟨b, off + j * 4 + 2, none⟩ = some (.int .i64 u.2.2.1) ∧ w'.cell? ⟨b, off + j * 4 + 3, none⟩ = some (.int .i64 u.2.2.2)) ∧ (w'.cell? ⟨b, off + i * 4, none⟩ = some (.int .i64 v.1) ∧ w'.cell? ⟨b, off + i * 4 + 1, none⟩ = some (.int .i64 v.2.1) ∧ w'.cell? ⟨b, off + i * 4 + 2, none⟩ = some (.int .i64 v.2.2.1) ∧ w'.cell? ⟨b, off + i * 4 + 3, none⟩ = some (.int .i64 v.2.2.2))) (first | exact ⟨⟨k0, k1, k2, k3⟩, ⟨k4, k5, k6, k7⟩⟩ | exact hQ) (first
                | (go_at_call 113; refine (sHowS_is v u _ _ hm).mono ?_; rintro e w9 ⟨rfl, hb9⟩; have HB9 := Lib.hid (HB.out.drew.trans (hb9.mono HB.out.size)); have HO9 := Lib.hid ((HO.out.drew).belowAll hb9); have hQ := And.intro (cells4 (HO9.out.sees elSegment) HU.out) (cells4 (HO9.out.sees elSegment) HV.out)) | fail)
              all_goals
                go_wp2
                go_ret
                exact ⟨rfl, HB9.out⟩
        · obtain rfl : j = i := by omega
          go_wp2
          go_roundw
          case rel => exact ⟨j + 1, by omega, by go_num, Lib.hid (upto_step hp.out hq.out), HO, HB⟩
          case measure => simp [intOf]; omega
    · obtain rfl : i = L.length := by omega
      go_wp2_with (go_at_call 106; refine (sIsLine_is A c l _ ((HS.out.below HB.out).mono HB.out.size) hl z ?_).mono ?_)
      · rw [HL.out] at hp; exact (smp_all hp.out).trans HZ.out
      · rintro e w9 ⟨rfl, hb9⟩
        go_wp2
        go_ret
        exact ⟨rfl, HB.out.trans (hb9.mono HB.out.size)⟩
theorem mxS_step {n : Int} {s : Int × Int × Int × Int} {T : List (Int × Int × Int × Int)} {j : Nat} {x : Int × Int × Int × Int} (hx : T[j]? = some x) : extV true (mxS n s (T.take j)) (howS s x) = mxS n s (T.take (j + 1)) := by
  rw [List.take_add_one, hx]; exact (mxS_snoc _ _ _ _).symm
theorem mtV_step {S T : List (Int × Int × Int × Int)} {i : Nat} {u : Int × Int × Int × Int} (hu : S[i]? = some u) : mxS (mtV (S.take i) T) u T = mtV (S.take (i + 1)) T := by
  rw [List.take_add_one, hu]; exact (mtV_snoc _ _ _).symm
end Go.Proofs.YtbnjaaegbmhopaaGreatDoor
end
section
/- Rings in the model: l7Segments, RotateRing, TurnRing. -/
namespace Go.Proofs.YtbnjaaegbmhopaaGreatDoor
open Go.ChangeShapes Go.WideShapes Go.ChangeAt Go.RowKit
set_option linter.unusedVariables false

theorem keepAr {w : World} {p : Addr} {v : Value} (h : w.cell? p = some v) (o : Obj) : (w.alloc o).cell? p = some v :=
  (World.cell?_of_block (Below.heap_alloc _ _ _ (World.block_lt_of_cell? w p h))).trans h
theorem rgs_step {S L L2 : List (Int × Int × Int × Int)} {j : Nat} {x : Int × Int × Int × Int} (hL : L = S.take j) (h : L2 = L ++ [x]) (hx : S[j]? = some x) : L2 = S.take (j + 1) := by
  rw [h, hL, List.take_add_one, hx]; rfl
set_option maxRecDepth 100000 in
set_option maxHeartbeats 1000000 in
theorem l7Segments_any (A : Option Addr) (c : Nat) (l : List (Int × Int)) (w : World) (hs : SeesE 2 encPoint w w.heap.size A l) (hl : l.length ≤ 274877906944) :
    Calls Tryz.prog 107 #[.slice A l.length c] w (GivesE 4 encSegment 78 (rgS l) w) := by
  have HS := Lib.hid hs; clear hs
  have hrl := rgS_len l
  go_enter Tryz.func107, Tryz.ntmps107
  go_wp2
  go_loopw [3, 4] (fun v i wr => ∃ (A1 : Option Addr) (c1 : Nat) (L : List (Int × Int × Int × Int)) (j : Nat), v = .slice A1 L.length c1 ∧ i = .int .i64 (j : Int) ∧ j ≤ l.length ∧ Hid (L = (rgS l).take j) ∧ Hid (L.length = j) ∧ Hid (OwnE 4 encSegment wr w.heap.size 78 (.slice A1 L.length c1) L) ∧ Hid (Below w.heap.size w wr)) (fun _ i _ => l.length - (intOf i).toNat)
  case atStart => exact ⟨_, _, [], 0, rfl, rfl, Nat.zero_le _, Lib.hid (by simp), Lib.hid rfl, Lib.hid (OwnE.lit w _ _ (Nat.le_refl _)), Lib.hid ((Below.refl _ _).alloc (Nat.le_refl _) _)⟩
  case round =>
    obtain ⟨A1, c1, L, j, rfl, rfl, hj, hL, HN, HO, HB⟩ := hrel
    by_cases hlt : j < l.length
    · have hlt' : (j : Int) < (l.length : Int) := by omega
      have hrem2 : wrap64 ((j : Int) + 1) = (j : Int) + 1 := by unfold wrap64; omega
      have hrem3 : IntKind.i64.wrap ((j : Int) + 1) = (j : Int) + 1 := IntWalk.i64_in _ (by omega)
      obtain ⟨⟨x0, x1⟩, hx⟩ : ∃ p, l[j]? = some p := ⟨_, List.getElem?_eq_getElem hlt⟩
      obtain ⟨k, hk, hkl⟩ : ∃ k, (j + 1) % l.length = k ∧ k < l.length := ⟨_, rfl, Nat.mod_lt _ (by omega)⟩
      obtain ⟨⟨y0, y1⟩, hy⟩ : ∃ p, l[k]? = some p := ⟨_, List.getElem?_eq_getElem hkl⟩
      have HJ : Hid ((rgS l)[j]? = some (x0, x1, y0, y1)) := Lib.hid (rgS_get hx (by rw [hk]; exact hy))
      obtain ⟨b, off, rfl, hbl, -⟩ := HS.out j _ hx
      obtain ⟨k0, k1⟩ := cellsPoint (HS.out.below HB.out) hx
      obtain ⟨k2, k3⟩ := cellsPoint (HS.out.below HB.out) hy
      have hkl' : (k : Int) < (l.length : Int) := by omega
      have hne : ¬ ((l.length : Int) = 0) := by omega
      have hne2 : ¬ (l = []) := fun e => by rw [e] at hlt; simp at hlt
      have hone : L.length + [(x0, x1, y0, y1)].length ≤ 1099511627776 := by rw [HN.out]; simp; omega
      have d0 : wr.drew.cell? ⟨b, off + j * 2, none⟩ = some (.int .i64 x0) := k0
      have d1 : wr.drew.cell? ⟨b, off + j * 2 + 1, none⟩ = some (.int .i64 x1) := k1
      have d2 : wr.drew.cell? ⟨b, off + k * 2, none⟩ = some (.int .i64 y0) := k2
      have d3 : wr.drew.cell? ⟨b, off + k * 2 + 1, none⟩ = some (.int .i64 y1) := k3
      have HQ1 := Lib.hid (And.intro d0 (And.intro d1 (And.intro d2 d3)))
      have HQ2 := Lib.hid (And.intro (keepAr d0 (.cells (sC (x0, x1, y0, y1)) 78)) (And.intro (keepAr d1 (.cells (sC (x0, x1, y0, y1)) 78)) (And.intro (keepAr d2 (.cells (sC (x0, x1, y0, y1)) 78)) (keepAr d3 (.cells (sC (x0, x1, y0, y1)) 78)))))
      clear d0 d1 d2 d3
      have HB2 := Lib.hid (HB.out.drew.alloc HB.out.size (.cells (sC (x0, x1, y0, y1)) 78))
      have HO2 := Lib.hid (HO.out.drew.alloc (.cells (sC (x0, x1, y0, y1)) 78))
      have HX2 := Lib.hid (seesE_new elSegment wr.drew (x0, x1, y0, y1) (sC (x0, x1, y0, y1)) 78 (wr.drew.heap.size + 1) (Nat.lt_succ_self _) rfl)
      have hrem : ((j : Int) + 1).tmod (l.length : Int) = (k : Int) := by
        rw [Int.tmod_eq_emod_of_nonneg (by omega)]; exact_mod_cast hk
      clear hx hy hk
      go_wp2
      go_region_held3 (fun w' => w'.cell? ⟨b, off + j * 2, none⟩ = some (.int .i64 x0) ∧ w'.cell? ⟨b, off + j * 2 + 1, none⟩ = some (.int .i64 x1) ∧ w'.cell? ⟨b, off + k * 2, none⟩ = some (.int .i64 y0) ∧ w'.cell? ⟨b, off + k * 2 + 1, none⟩ = some (.int .i64 y1)) (first | with_reducible exact ⟨k0, k1, k2, k3⟩ | with_reducible exact HQ1.out | with_reducible exact HQ2.out | exact ⟨keepAr k0 _, keepAr k1 _, keepAr k2 _, keepAr k3 _⟩ | with_reducible exact hc4.out) (first
        | (refine stepSg (wr.drew.alloc (.cells (sC (x0, x1, y0, y1)) 78)) _ _ (by rfl) w.heap.size (.slice A1 L.length c1) L (by rfl) HO2.out (wr.drew.heap.size + 1) (some ⟨wr.drew.heap.size, 0, none⟩) 1 1 [(x0, x1, y0, y1)] (by rfl) (by rfl) HX2.out hone HB2.out.size ?_; intro A4 c4 L4 w4 hL4 h1 h2 ho4 hb4; have hc4 := Lib.hid (And.intro ((hb4.cell (p := ⟨b, off + j * 2, none⟩) hbl).trans HQ2.out.1) (And.intro ((hb4.cell (p := ⟨b, off + j * 2 + 1, none⟩) hbl).trans HQ2.out.2.1) (And.intro ((hb4.cell (p := ⟨b, off + k * 2, none⟩) hbl).trans HQ2.out.2.2.1) ((hb4.cell (p := ⟨b, off + k * 2 + 1, none⟩) hbl).trans HQ2.out.2.2.2))))) | fail)
      go_wp2
      go_roundw
      case rel => exact ⟨A4, c4, L4, j + 1, rfl, by go_num, by omega, Lib.hid (rgs_step hL.out hL4.out HJ.out), Lib.hid (by have := HN.out; simp at h1 h2; omega), Lib.hid ho4, Lib.hid (HB2.out.trans hb4)⟩
      case measure => simp [intOf]; omega
    · obtain rfl : j = l.length := by omega
      go_wp2
      go_ret
      exact ⟨A1, c1, L, Lib.hid (by rw [hL.out, List.take_of_length_le (by omega)]), rfl, HO.out, HB.out⟩
end Go.Proofs.YtbnjaaegbmhopaaGreatDoor
end
section
/- Rings in the model: IsRing and RingSegments. -/
namespace Go.Proofs.YtbnjaaegbmhopaaGreatDoor
open Go.ChangeShapes Go.WideShapes Go.ChangeAt Go.RowKit
set_option linter.unusedVariables false

theorem sIsSegS_is (s : Int × Int × Int × Int) (k : Bool) (w : World) (h : sOk s = k) :
    Calls Tryz.prog 136 #[sV s] w fun e w' => e = .returned (.bool k) ∧ Below w.heap.size w w' := sIsSegment_is _ _ _ _ k w h
theorem rg_no_seg {l : List (Int × Int)} {i : Nat} {s : Int × Int × Int × Int} (hs : (rgS l)[i]? = some s) (h : sOk s = false) : isRg l = false := by
  cases hh : isRg l
  · rfl
  · rw [((isRg_iff l).1 hh).2.1 s (List.mem_of_getElem? hs)] at h; cases h
theorem rg_no_turn {l : List (Int × Int)} {i k : Nat} {u v : Int × Int × Int × Int} (hi : (rgS l)[i]? = some u) (hk : (rgS l)[k]? = some v) (hik : i < k) (h : ¬ howS u v = wantC true (rgS l).length i k) : isRg l = false := by
  rw [isRg_turn, turn_no hi hk hik h, Bool.and_false]
set_option maxRecDepth 100000 in
set_option maxHeartbeats 2000000 in
theorem sIsRing_is (A : Option Addr) (c : Nat) (l : List (Int × Int)) (w : World) (hs : SeesE 2 encPoint w w.heap.size A l) (hl : l.length ≤ 274877906944) (z : Bool) (hz : isRg l = z) :
    Calls Tryz.prog 105 #[.slice A l.length c] w fun e w' => e = .returned (.bool z) ∧ Below w.heap.size w w' := by
  have HS := Lib.hid hs
  have HZ := Lib.hid hz
  clear hs hz
  go_enter Tryz.func105, Tryz.ntmps105
  cases hin : inB l.length 3 10
  · obtain rfl : z = false := by rw [← HZ.out, isRg_turn, hin]; rfl
    go_wp2_with (go_at_call 101; refine (l1in_is _ _ _ _ _ hin).mono ?_; rintro e w1 ⟨rfl, rfl⟩)
    go_ret
    exact ⟨rfl, Below.refl _ _⟩
  · have h310 : 3 ≤ l.length ∧ l.length ≤ 10 := by simp only [inB, decide_eq_true_eq] at hin; omega
    go_wp2_with (first
      | (go_at_call 101; refine (l1in_is _ _ _ _ _ hin).mono ?_; rintro e w1 ⟨rfl, rfl⟩)
      | (go_at_call 107; refine (l7Segments_any A c l _ HS.out hl).mono ?_; rintro e w1 ⟨A1, c1, L, hL, rfl, ho1, hb1⟩))
    have HO1 := Lib.hid ho1; have HB1 := Lib.hid hb1; have HL := hL
    have h10 : L.length ≤ 10 := by rw [hL.out, rgS_len]; exact h310.2
    have HTV : Hid (turnV true L = z) := Lib.hid (by rw [← HZ.out, isRg_turn, hin, Bool.true_and, HL.out])
    clear ho1 hb1 hL h310
    go_loopw [4] (fun i wr => ∃ j : Nat, j ≤ L.length ∧ i = .int .i64 j ∧ Hid (∀ k, k < j → ∀ i, i < k → prOk true L i k = true) ∧ Hid (OwnE 4 encSegment wr w.heap.size 78 (.slice A1 L.length c1) L) ∧ Hid (Below w.heap.size w wr)) (fun i _ => L.length - (intOf i).toNat)
    case atStart => exact ⟨0, Nat.zero_le _, rfl, Lib.hid (fun k hk => by omega), HO1, HB1⟩
    case round =>
      obtain ⟨i, hi, rfl, hp, HO, HB⟩ := hrel
      clear HO1 HB1
      by_cases hlt : i < L.length
      · have hli : (i : Int) < (L.length : Int) := by omega
        obtain ⟨b, off, v, rfl, hbl, hv, -⟩ := (HO.out.sees elSegment).lt hlt
        obtain ⟨k4, k5, k6, k7⟩ := cells4 (HO.out.sees elSegment) hv
        have HV := Lib.hid hv
        have HV' : Hid ((rgS l)[i]? = some v) := Lib.hid (by rw [← HL.out]; exact hv)
        clear hv
        cases hok : sOk v
        · obtain rfl : z = false := HZ.out.symm.trans (rg_no_seg HV'.out hok)
          go_wp2_with (go_at_call 136; refine (sIsSegS_is v false _ hok).mono ?_; rintro e w9 ⟨rfl, hb9⟩)
          go_ret
          exact ⟨rfl, HB.out.trans (hb9.mono HB.out.size)⟩
        · go_wp2_with (go_at_call 136; refine (sIsSegS_is v true _ hok).mono ?_; rintro e w9 ⟨rfl, hb9⟩; have HB9 := Lib.hid (HB.out.trans (hb9.mono HB.out.size)); have HO9 := Lib.hid (HO.out.belowAll hb9))
          clear hb9 k4 k5 k6 k7
          go_loopw [5] (fun k wx => ∃ j : Nat, j ≤ i ∧ k = .int .i64 j ∧ Hid (∀ q, q < j → prOk true L q i = true) ∧ Hid (OwnE 4 encSegment wx w.heap.size 78 (.slice (some ⟨b, off, none⟩) L.length c1) L) ∧ Hid (Below w.heap.size w wx)) (fun k _ => i - (intOf k).toNat)
          case atStart => exact ⟨0, Nat.zero_le _, rfl, Lib.hid (fun k hk => by omega), HO9, HB9⟩
          case round =>
            obtain ⟨j, hj, rfl, hq, HO, HB⟩ := hrel
            by_cases hlj : j < i
            · have hlj' : (j : Int) < (L.length : Int) := by omega
              have hlj2 : (j : Int) < (i : Int) := by omega
              obtain ⟨u, hu⟩ : ∃ u, L[j]? = some u := ⟨_, List.getElem?_eq_getElem (by omega)⟩
              obtain ⟨k0, k1, k2, k3⟩ := cells4 (HO.out.sees elSegment) hu
              obtain ⟨k4, k5, k6, k7⟩ := cells4 (HO.out.sees elSegment) HV.out
              have HU := Lib.hid hu
              have HU' : Hid ((rgS l)[j]? = some u) := Lib.hid (by rw [← HL.out]; exact hu)
              clear hu
              obtain ⟨m, hm⟩ : ∃ m, howS v u = m := ⟨_, rfl⟩
              have HM : Hid (howS u v = m) := Lib.hid (by rw [← hm]; exact howS_comm v u)
              have hw1 : wrap64 ((j : Int) + 1) = (j : Int) + 1 := by unfold wrap64; omega
              have hw2 : wrap64 ((i : Int) + 1) = (i : Int) + 1 := by unfold wrap64; omega
              by_cases he : j + 1 = i
              · have he1 : ((j : Int) + 1 == (i : Int)) = true := by simp; omega
                have he2 : (j : Int) + 1 = (i : Int) := by omega
                have HWn : Hid (wantC true L.length j i = 1) := Lib.hid (if_pos (.inl he))
                by_cases h1 : m = 1
                · subst h1
                  go_wp2
                  go_region_held3 (fun w' => (w'.cell? ⟨b, off + j * 4, none⟩ = some (.int .i64 u.1) ∧ w'.cell? ⟨b, off + j * 4 + 1, none⟩ = some (.int .i64 u.2.1) ∧ w'.cell? ⟨b, off + j * 4 + 2, none⟩ = some (.int .i64 u.2.2.1) ∧ w'.cell? ⟨b, off + j * 4 + 3, none⟩ = some (.int .i64 u.2.2.2)) ∧ (w'.cell? ⟨b, off + i * 4, none⟩ = some (.int .i64 v.1) ∧ w'.cell? ⟨b, off + i * 4 + 1, none⟩ = some (.int .i64 v.2.1) ∧ w'.cell? ⟨b, off + i * 4 + 2, none⟩ = some (.int .i64 v.2.2.1) ∧ w'.cell? ⟨b, off + i * 4 + 3, none⟩ = some (.int .i64 v.2.2.2))) (first | exact ⟨⟨k0, k1, k2, k3⟩, ⟨k4, k5, k6, k7⟩⟩ | exact hQ) (first
                    | (go_at_call 113; refine (sHowS_is v u _ _ hm).mono ?_; rintro e w9 ⟨rfl, hb9⟩; have HB9 := Lib.hid (HB.out.drew.trans (hb9.mono HB.out.size)); have HO9 := Lib.hid ((HO.out.drew).belowAll hb9); have hQ := And.intro (cells4 (HO9.out.sees elSegment) HU.out) (cells4 (HO9.out.sees elSegment) HV.out)) | fail)
                  all_goals
                    go_wp2
                    go_roundw
                    case rel => exact ⟨j + 1, by omega, by go_num, Lib.hid (upto_step hq.out (pr_ok HU.out HV.out (HM.out.trans HWn.out.symm))), HO9, HB9⟩
                    case measure => simp [intOf]; omega
                · obtain rfl : z = false := HZ.out.symm.trans (rg_no_turn HU'.out HV'.out hlj (by rw [← HL.out, HM.out, HWn.out]; exact h1))
                  go_wp2
                  go_region_held3 (fun w' => (w'.cell? ⟨b, off + j * 4, none⟩ = some (.int .i64 u.1) ∧ w'.cell? ⟨b, off + j * 4 + 1, none⟩ = some (.int .i64 u.2.1) ∧ w'.cell? ⟨b, off + j * 4 + 2, none⟩ = some (.int .i64 u.2.2.1) ∧ w'.cell? ⟨b, off + j * 4 + 3, none⟩ = some (.int .i64 u.2.2.2)) ∧ (w'.cell? ⟨b, off + i * 4, none⟩ = some (.int .i64 v.1) ∧ w'.cell? ⟨b, off + i * 4 + 1, none⟩ = some (.int .i64 v.2.1) ∧ w'.cell? ⟨b, off + i * 4 + 2, none⟩ = some (.int .i64 v.2.2.1) ∧ w'.cell? ⟨b, off + i * 4 + 3, none⟩ = some (.int .i64 v.2.2.2))) (first | exact ⟨⟨k0, k1, k2, k3⟩, ⟨k4, k5, k6, k7⟩⟩ | exact hQ) (first
                    | (go_at_call 113; refine (sHowS_is v u _ _ hm).mono ?_; rintro e w9 ⟨rfl, hb9⟩; have HB9 := Lib.hid (HB.out.drew.trans (hb9.mono HB.out.size)); have HO9 := Lib.hid ((HO.out.drew).belowAll hb9); have hQ := And.intro (cells4 (HO9.out.sees elSegment) HU.out) (cells4 (HO9.out.sees elSegment) HV.out)) | fail)
                  all_goals
                    go_wp2
                    go_ret
                    exact ⟨rfl, HB9.out⟩
              · have he1 : ((j : Int) + 1 == (i : Int)) = false := by simp; omega
                have he2 : ¬ ((j : Int) + 1 = (i : Int)) := by omega
                by_cases hj0 : j = 0
                · have hj1 : ((j : Int) == 0) = true := by simp; omega
                  have HJ0 := Lib.hid hj0
                  clear hj0
                  by_cases hi0 : i + 1 = L.length
                  · have hi1 : ((i : Int) + 1 == (L.length : Int)) = true := by simp; omega
                    have hi2 : (i : Int) + 1 = (L.length : Int) := by omega
                    have HWn : Hid (wantC true L.length j i = 1) := Lib.hid (if_pos (.inr ⟨rfl, HJ0.out, hi0⟩))
                    by_cases h1 : m = 1
                    · subst h1
                      go_wp2
                      go_region_held3 (fun w' => (w'.cell? ⟨b, off + j * 4, none⟩ = some (.int .i64 u.1) ∧ w'.cell? ⟨b, off + j * 4 + 1, none⟩ = some (.int .i64 u.2.1) ∧ w'.cell? ⟨b, off + j * 4 + 2, none⟩ = some (.int .i64 u.2.2.1) ∧ w'.cell? ⟨b, off + j * 4 + 3, none⟩ = some (.int .i64 u.2.2.2)) ∧ (w'.cell? ⟨b, off + i * 4, none⟩ = some (.int .i64 v.1) ∧ w'.cell? ⟨b, off + i * 4 + 1, none⟩ = some (.int .i64 v.2.1) ∧ w'.cell? ⟨b, off + i * 4 + 2, none⟩ = some (.int .i64 v.2.2.1) ∧ w'.cell? ⟨b, off + i * 4 + 3, none⟩ = some (.int .i64 v.2.2.2))) (first | exact ⟨⟨k0, k1, k2, k3⟩, ⟨k4, k5, k6, k7⟩⟩ | exact hQ) (first
                        | (go_at_call 113; refine (sHowS_is v u _ _ hm).mono ?_; rintro e w9 ⟨rfl, hb9⟩; have HB9 := Lib.hid (HB.out.drew.trans (hb9.mono HB.out.size)); have HO9 := Lib.hid ((HO.out.drew).belowAll hb9); have hQ := And.intro (cells4 (HO9.out.sees elSegment) HU.out) (cells4 (HO9.out.sees elSegment) HV.out)) | fail)
                      all_goals
                        go_wp2
                        go_roundw
                        case rel => exact ⟨j + 1, by omega, by go_num, Lib.hid (upto_step hq.out (pr_ok HU.out HV.out (HM.out.trans HWn.out.symm))), HO9, HB9⟩
                        case measure => simp [intOf]; omega
                    · obtain rfl : z = false := HZ.out.symm.trans (rg_no_turn HU'.out HV'.out hlj (by rw [← HL.out, HM.out, HWn.out]; exact h1))
                      go_wp2
                      go_region_held3 (fun w' => (w'.cell? ⟨b, off + j * 4, none⟩ = some (.int .i64 u.1) ∧ w'.cell? ⟨b, off + j * 4 + 1, none⟩ = some (.int .i64 u.2.1) ∧ w'.cell? ⟨b, off + j * 4 + 2, none⟩ = some (.int .i64 u.2.2.1) ∧ w'.cell? ⟨b, off + j * 4 + 3, none⟩ = some (.int .i64 u.2.2.2)) ∧ (w'.cell? ⟨b, off + i * 4, none⟩ = some (.int .i64 v.1) ∧ w'.cell? ⟨b, off + i * 4 + 1, none⟩ = some (.int .i64 v.2.1) ∧ w'.cell? ⟨b, off + i * 4 + 2, none⟩ = some (.int .i64 v.2.2.1) ∧ w'.cell? ⟨b, off + i * 4 + 3, none⟩ = some (.int .i64 v.2.2.2))) (first | exact ⟨⟨k0, k1, k2, k3⟩, ⟨k4, k5, k6, k7⟩⟩ | exact hQ) (first
                        | (go_at_call 113; refine (sHowS_is v u _ _ hm).mono ?_; rintro e w9 ⟨rfl, hb9⟩; have HB9 := Lib.hid (HB.out.drew.trans (hb9.mono HB.out.size)); have HO9 := Lib.hid ((HO.out.drew).belowAll hb9); have hQ := And.intro (cells4 (HO9.out.sees elSegment) HU.out) (cells4 (HO9.out.sees elSegment) HV.out)) | fail)
                      all_goals
                        go_wp2
                        go_ret
                        exact ⟨rfl, HB9.out⟩
                  · have hi1 : ((i : Int) + 1 == (L.length : Int)) = false := by simp; omega
                    have hi2 : ¬ ((i : Int) + 1 = (L.length : Int)) := by omega
                    have HWn : Hid (wantC true L.length j i = 0) := Lib.hid (if_neg (by simp; omega))
                    by_cases h1 : m = 0
                    · subst h1
                      go_wp2
                      go_region_held3 (fun w' => (w'.cell? ⟨b, off + j * 4, none⟩ = some (.int .i64 u.1) ∧ w'.cell? ⟨b, off + j * 4 + 1, none⟩ = some (.int .i64 u.2.1) ∧ w'.cell? ⟨b, off + j * 4 + 2, none⟩ = some (.int .i64 u.2.2.1) ∧ w'.cell? ⟨b, off + j * 4 + 3, none⟩ = some (.int .i64 u.2.2.2)) ∧ (w'.cell? ⟨b, off + i * 4, none⟩ = some (.int .i64 v.1) ∧ w'.cell? ⟨b, off + i * 4 + 1, none⟩ = some (.int .i64 v.2.1) ∧ w'.cell? ⟨b, off + i * 4 + 2, none⟩ = some (.int .i64 v.2.2.1) ∧ w'.cell? ⟨b, off + i * 4 + 3, none⟩ = some (.int .i64 v.2.2.2))) (first | exact ⟨⟨k0, k1, k2, k3⟩, ⟨k4, k5, k6, k7⟩⟩ | exact hQ) (first
                        | (go_at_call 113; refine (sHowS_is v u _ _ hm).mono ?_; rintro e w9 ⟨rfl, hb9⟩; have HB9 := Lib.hid (HB.out.drew.trans (hb9.mono HB.out.size)); have HO9 := Lib.hid ((HO.out.drew).belowAll hb9); have hQ := And.intro (cells4 (HO9.out.sees elSegment) HU.out) (cells4 (HO9.out.sees elSegment) HV.out)) | fail)
                      all_goals
                        go_wp2
                        go_roundw
                        case rel => exact ⟨j + 1, by omega, by go_num, Lib.hid (upto_step hq.out (pr_ok HU.out HV.out (HM.out.trans HWn.out.symm))), HO9, HB9⟩
                        case measure => simp [intOf]; omega
                    · obtain rfl : z = false := HZ.out.symm.trans (rg_no_turn HU'.out HV'.out hlj (by rw [← HL.out, HM.out, HWn.out]; exact h1))
                      go_wp2
                      go_region_held3 (fun w' => (w'.cell? ⟨b, off + j * 4, none⟩ = some (.int .i64 u.1) ∧ w'.cell? ⟨b, off + j * 4 + 1, none⟩ = some (.int .i64 u.2.1) ∧ w'.cell? ⟨b, off + j * 4 + 2, none⟩ = some (.int .i64 u.2.2.1) ∧ w'.cell? ⟨b, off + j * 4 + 3, none⟩ = some (.int .i64 u.2.2.2)) ∧ (w'.cell? ⟨b, off + i * 4, none⟩ = some (.int .i64 v.1) ∧ w'.cell? ⟨b, off + i * 4 + 1, none⟩ = some (.int .i64 v.2.1) ∧ w'.cell? ⟨b, off + i * 4 + 2, none⟩ = some (.int .i64 v.2.2.1) ∧ w'.cell? ⟨b, off + i * 4 + 3, none⟩ = some (.int .i64 v.2.2.2))) (first | exact ⟨⟨k0, k1, k2, k3⟩, ⟨k4, k5, k6, k7⟩⟩ | exact hQ) (first
                        | (go_at_call 113; refine (sHowS_is v u _ _ hm).mono ?_; rintro e w9 ⟨rfl, hb9⟩; have HB9 := Lib.hid (HB.out.drew.trans (hb9.mono HB.out.size)); have HO9 := Lib.hid ((HO.out.drew).belowAll hb9); have hQ := And.intro (cells4 (HO9.out.sees elSegment) HU.out) (cells4 (HO9.out.sees elSegment) HV.out)) | fail)
                      all_goals
                        go_wp2
                        go_ret
                        exact ⟨rfl, HB9.out⟩
                · have hj1 : ((j : Int) == 0) = false := by simp; omega
                  have hj2 : ¬ ((j : Int) = 0) := by omega
                  have HWn : Hid (wantC true L.length j i = 0) := Lib.hid (if_neg (by simp; omega))
                  by_cases h1 : m = 0
                  · subst h1
                    go_wp2
                    go_region_held3 (fun w' => (w'.cell? ⟨b, off + j * 4, none⟩ = some (.int .i64 u.1) ∧ w'.cell? ⟨b, off + j * 4 + 1, none⟩ = some (.int .i64 u.2.1) ∧ w'.cell? ⟨b, off + j * 4 + 2, none⟩ = some (.int .i64 u.2.2.1) ∧ w'.cell? ⟨b, off + j * 4 + 3, none⟩ = some (.int .i64 u.2.2.2)) ∧ (w'.cell? ⟨b, off + i * 4, none⟩ = some (.int .i64 v.1) ∧ w'.cell? ⟨b, off + i * 4 + 1, none⟩ = some (.int .i64 v.2.1) ∧ w'.cell? ⟨b, off + i * 4 + 2, none⟩ = some (.int .i64 v.2.2.1) ∧ w'.cell? ⟨b, off + i * 4 + 3, none⟩ = some (.int .i64 v.2.2.2))) (first | exact ⟨⟨k0, k1, k2, k3⟩, ⟨k4, k5, k6, k7⟩⟩ | exact hQ) (first
                      | (go_at_call 113; refine (sHowS_is v u _ _ hm).mono ?_; rintro e w9 ⟨rfl, hb9⟩; have HB9 := Lib.hid (HB.out.drew.trans (hb9.mono HB.out.size)); have HO9 := Lib.hid ((HO.out.drew).belowAll hb9); have hQ := And.intro (cells4 (HO9.out.sees elSegment) HU.out) (cells4 (HO9.out.sees elSegment) HV.out)) | fail)
                    all_goals
                      go_wp2
                      go_roundw
                      case rel => exact ⟨j + 1, by omega, by go_num, Lib.hid (upto_step hq.out (pr_ok HU.out HV.out (HM.out.trans HWn.out.symm))), HO9, HB9⟩
                      case measure => simp [intOf]; omega
                  · obtain rfl : z = false := HZ.out.symm.trans (rg_no_turn HU'.out HV'.out hlj (by rw [← HL.out, HM.out, HWn.out]; exact h1))
                    go_wp2
                    go_region_held3 (fun w' => (w'.cell? ⟨b, off + j * 4, none⟩ = some (.int .i64 u.1) ∧ w'.cell? ⟨b, off + j * 4 + 1, none⟩ = some (.int .i64 u.2.1) ∧ w'.cell? ⟨b, off + j * 4 + 2, none⟩ = some (.int .i64 u.2.2.1) ∧ w'.cell? ⟨b, off + j * 4 + 3, none⟩ = some (.int .i64 u.2.2.2)) ∧ (w'.cell? ⟨b, off + i * 4, none⟩ = some (.int .i64 v.1) ∧ w'.cell? ⟨b, off + i * 4 + 1, none⟩ = some (.int .i64 v.2.1) ∧ w'.cell? ⟨b, off + i * 4 + 2, none⟩ = some (.int .i64 v.2.2.1) ∧ w'.cell? ⟨b, off + i * 4 + 3, none⟩ = some (.int .i64 v.2.2.2))) (first | exact ⟨⟨k0, k1, k2, k3⟩, ⟨k4, k5, k6, k7⟩⟩ | exact hQ) (first
                      | (go_at_call 113; refine (sHowS_is v u _ _ hm).mono ?_; rintro e w9 ⟨rfl, hb9⟩; have HB9 := Lib.hid (HB.out.drew.trans (hb9.mono HB.out.size)); have HO9 := Lib.hid ((HO.out.drew).belowAll hb9); have hQ := And.intro (cells4 (HO9.out.sees elSegment) HU.out) (cells4 (HO9.out.sees elSegment) HV.out)) | fail)
                    all_goals
                      go_wp2
                      go_ret
                      exact ⟨rfl, HB9.out⟩
            · obtain rfl : j = i := by omega
              go_wp2
              go_roundw
              case rel => exact ⟨j + 1, by omega, by go_num, Lib.hid (upto_step hp.out hq.out), HO, HB⟩
              case measure => simp [intOf]; omega
      · obtain rfl : i = L.length := by omega
        obtain rfl : z = true := HTV.out.symm.trans (turn_yes hp.out)
        go_wp2
        go_ret
        exact ⟨rfl, HB.out⟩
end Go.Proofs.YtbnjaaegbmhopaaGreatDoor
end
section
/- Features: IsFeature of the model. -/
namespace Go.Proofs.YtbnjaaegbmhopaaGreatDoor
open Go.ChangeShapes Go.WideShapes Go.ChangeAt Go.RowKit
set_option linter.unusedVariables false

theorem feat_1 {a k r : Int} {s : ByteArray} {ps : List (Int × Int)} (h : inB a 1 99 = false) : featV (a, k, r, s, ps) = false := by simp [featV, h]
theorem feat_2 {a k r : Int} {s : ByteArray} {ps : List (Int × Int)} (h : inB r 0 9 = false) : featV (a, k, r, s, ps) = false := by simp [featV, h]
theorem feat_3 {a k r : Int} {s : ByteArray} {ps : List (Int × Int)} (h : ¬ s.size = 0) (h' : nameV s = false) : featV (a, k, r, s, ps) = false := by simp only [featV, h', decide_eq_false h, Bool.false_or, Bool.false_and, Bool.and_false]
theorem feat_4 {a k r : Int} {s : ByteArray} {ps : List (Int × Int)} (h1 : inB a 1 99 = true) (h2 : inB r 0 9 = true) (h3 : s.size = 0 ∨ nameV s = true) : featV (a, k, r, s, ps) = shapeV k ps := by
  have : (decide (s.size = 0) || nameV s) = true := by rcases h3 with h | h <;> simp [h]
  simp only [featV, h1, h2, this, Bool.true_and]
theorem shape_1 (ps : List (Int × Int)) : shapeV 1 ps = onePt ps := rfl
theorem shape_2 (ps : List (Int × Int)) : shapeV 2 ps = smpV ps := rfl
theorem shape_3 (ps : List (Int × Int)) : shapeV 3 ps = isRg ps := rfl
theorem shape_0 {k : Int} (ps : List (Int × Int)) (h1 : ¬ k = 1) (h2 : ¬ k = 2) (h3 : ¬ k = 3) : shapeV k ps = false := by simp [shapeV, h1, h2, h3]
theorem one_no {ps : List (Int × Int)} (h : ¬ ps.length = 1) : onePt ps = false := by
  match ps, h with
  | [], _ => rfl
  | [p], h => simp at h
  | _ :: _ :: _, _ => rfl
theorem empty_iff (s : ByteArray) : (s = ⟨#[]⟩) ↔ s.size = 0 := by
  constructor
  · rintro rfl; rfl
  · intro h
    obtain ⟨d⟩ := s
    have : d = #[] := Array.eq_empty_of_size_eq_zero h
    rw [this]
theorem empty_is (s : ByteArray) {z : Bool} (h : decide (s.size = 0) = z) : s.toList.isEmpty = z := by
  have hl : s.data.toList.length = s.size := Array.length_toList
  rw [← h, ByteArray.toList_eq, ← hl]
  cases s.data.toList <;> simp
set_option maxRecDepth 100000 in
set_option maxHeartbeats 2000000 in
theorem sIsFeature_is (a k r : Int) (s : ByteArray) (A : Option Addr) (c : Nat) (ps : List (Int × Int)) (z : Bool) (w : World) (hs : SeesE 2 encPoint w w.heap.size A ps) (hl : ps.length ≤ 274877906944) (hm : s.size ≤ maxLen) (hz : featV (a, k, r, s, ps) = z) :
    Calls Tryz.prog 62 #[FtV a k r s A ps.length c] w fun e w' => e = .returned (.bool z) ∧ Below w.heap.size w w' := by
  have HV := Lib.hid (Vars.of1 w (FtC a k r s A ps.length c) 41)
  have HS := Lib.hid hs
  have HZ := Lib.hid hz
  have HM := Lib.hid hm
  clear hs hz hm
  go_enter Tryz.func62, Tryz.ntmps62
  cases h1 : inB a 1 99
  · obtain rfl : false = z := (feat_1 h1).symm.trans HZ.out
    go_wp2_with fail
    refine (l1in_is _ _ _ false _ h1).mono ?_
    rintro e w1 ⟨rfl, rfl⟩
    go_wp2
    go_ret
    exact ⟨rfl, HV.out.1⟩
  cases h2 : inB r 0 9
  · obtain rfl : false = z := (feat_2 h2).symm.trans HZ.out
    go_wp2_with fail
    refine (l1in_is _ _ _ true _ h1).mono ?_
    rintro e w1 ⟨rfl, rfl⟩
    go_wp2_with fail
    refine (l1in_is _ _ _ false _ h2).mono ?_
    rintro e w1 ⟨rfl, rfl⟩
    go_wp2
    go_ret
    exact ⟨rfl, HV.out.1⟩
  obtain ⟨n, hn⟩ : ∃ n, nameV s = n := ⟨_, rfl⟩
  obtain ⟨m, hm⟩ : ∃ m, decide (s.size = 0) = m := ⟨_, rfl⟩
  have he := empty_is s hm
  by_cases hbad : m = false ∧ n = false
  · obtain ⟨rfl, rfl⟩ := hbad
    obtain rfl : false = z := (feat_3 (of_decide_eq_false hm) hn).symm.trans HZ.out
    clear hm
    go_wp2_with fail
    refine (l1in_is _ _ _ true _ h1).mono ?_
    rintro e w1 ⟨rfl, rfl⟩
    go_wp2_with fail
    refine (l1in_is _ _ _ true _ h2).mono ?_
    rintro e w1 ⟨rfl, rfl⟩
    go_wp2_with fail
    refine (sIsName_is s false _ HM.out hn).mono ?_
    rintro e w1 ⟨rfl, rfl⟩
    go_wp2
    go_ret
    exact ⟨rfl, HV.out.1⟩
  have HX : Hid (shapeV k ps = z) := Lib.hid (by
    rw [← feat_4 (s := s) h1 h2 ?_]; exact HZ.out
    cases m
    · cases n
      · exact absurd ⟨rfl, rfl⟩ hbad
      · exact .inr hn
    · exact .inl (of_decide_eq_true hm))
  go_upto_region 1 with fail
  go_cut [23] (fun s23 wx => s23 = .bool false ∧ Hid (Vars w wx [FtC a k r s A ps.length c]))
  case first =>
    cases m
    · cases n
      · exact absurd ⟨rfl, rfl⟩ hbad
      · clear hm hbad
        go_wp2_with fail
        refine (l1in_is _ _ _ true _ h1).mono ?_
        rintro e w1 ⟨rfl, rfl⟩
        go_wp2_with fail
        refine (l1in_is _ _ _ true _ h2).mono ?_
        rintro e w1 ⟨rfl, rfl⟩
        go_wp2_with fail
        refine (sIsName_is s true _ HM.out hn).mono ?_
        rintro e w1 ⟨rfl, rfl⟩
        go_wp2
        go_meet
        exact ⟨rfl, HV⟩
    · clear hm hbad
      go_wp2_with fail
      refine (l1in_is _ _ _ true _ h1).mono ?_
      rintro e w1 ⟨rfl, rfl⟩
      go_wp2_with fail
      refine (l1in_is _ _ _ true _ h2).mono ?_
      rintro e w1 ⟨rfl, rfl⟩
      go_wp2
      go_meet
      exact ⟨rfl, HV⟩
  case rest =>
  obtain ⟨rfl, HVc⟩ := hcut
  clear HV HZ h1 h2 hn hm he hbad
  have HSc := Lib.hid ((HS.out.below HVc.out.1).mono (Nat.le_trans (Nat.le_succ _) HVc.out.more1))
  obtain ⟨k0, k1, k2, k3, k4⟩ := HVc.out.c50
  by_cases e1 : k = 1
  · subst e1
    rw [shape_1] at HX
    by_cases hl1 : ps.length = 1
    · obtain ⟨⟨x, y⟩, rfl⟩ : ∃ p, ps = [p] := by
        match ps, hl1 with
        | [p], _ => exact ⟨p, rfl⟩
      obtain ⟨b, off, rfl, -, -⟩ := HSc.out 0 _ rfl
      obtain ⟨q0, q1⟩ := cellsPoint0 HSc.out rfl
      clear hl1
      go_wp2_with fail
      refine (sIsPoint_is x y z _ HX.out).mono ?_
      rintro e w1 ⟨rfl, hb1⟩
      have HV1 := Lib.hid (HVc.out.next hb1)
      clear hb1
      go_wp2
      go_ret
      exact ⟨rfl, HV1.out.1⟩
    · have hl1' : ¬ (ps.length : Int) = 1 := by omega
      obtain rfl : false = z := (one_no hl1).symm.trans HX.out
      clear hl1
      go_wp2
      go_ret
      exact ⟨rfl, HVc.out.1⟩
  by_cases e2 : k = 2
  · subst e2
    rw [shape_2] at HX
    go_wp2_with fail
    refine (sIsSimple_is A c ps _ HSc.out (by omega) z HX.out).mono ?_
    rintro e w1 ⟨rfl, hb1⟩
    have HV1 := Lib.hid (HVc.out.next hb1)
    clear hb1
    go_wp2
    go_ret
    exact ⟨rfl, HV1.out.1⟩
  by_cases e3 : k = 3
  · subst e3
    rw [shape_3] at HX
    go_wp2_with fail
    refine (sIsRing_is A c ps _ HSc.out hl z HX.out).mono ?_
    rintro e w1 ⟨rfl, hb1⟩
    have HV1 := Lib.hid (HVc.out.next hb1)
    clear hb1
    go_wp2
    go_ret
    exact ⟨rfl, HV1.out.1⟩
  obtain rfl : false = z := (shape_0 ps e1 e2 e3).symm.trans HX.out
  go_wp2
  go_ret
  exact ⟨rfl, HVc.out.1⟩
end Go.Proofs.YtbnjaaegbmhopaaGreatDoor
end
section
/- Lines: EqualLines and TurnLine, of package impl and of the model. -/
namespace Go.Proofs.YtbnjaaegbmhopaaGreatDoor
open Go.ChangeShapes Go.WideShapes Go.ChangeAt Go.RowKit
set_option linter.unusedVariables false

/-- Equal so far. -/
theorem eqPre_step {α : Type} {l m : List α} {j : Nat} (h : l.take j = m.take j) (hx : l[j]? = m[j]?) : l.take (j + 1) = m.take (j + 1) := by
  rw [List.take_add_one, List.take_add_one, h, hx]
theorem ne_of_get {α : Type} {l m : List α} {j : Nat} (h : l[j]? ≠ m[j]?) : l ≠ m := fun e => h (by rw [e])
theorem PtV_ne {a b c d : Int} (h : ¬ (a = c ∧ b = d)) : ((a, b) : Int × Int) ≠ (c, d) := fun e => h ⟨congrArg Prod.fst e, congrArg Prod.snd e⟩
def StRel (l : List (Int × Int)) (w : World) (v i : Value) (wr : World) : Prop :=
  ∃ (A : Option Addr) (c : Nat) (L : List (Int × Int)) (r : Nat), r ≤ l.length ∧ v = .slice A L.length c ∧ i = .int .i64 ((r : Int) - 1) ∧ Hid (L = l.reverse.take (l.length - r)) ∧ L.length = l.length - r ∧ OwnE 2 encPoint wr w.heap.size 33 (.slice A L.length c) L ∧ Below w.heap.size w wr
theorem st_step {l L L2 : List (Int × Int)} {m : Nat} {x : Int × Int} (hm : m + 1 ≤ l.length) (hL : L = l.reverse.take (l.length - (m + 1))) (h : L2 = L ++ [x]) (hx : l[m]? = some x) : L2 = l.reverse.take (l.length - m) := by
  have e : l.length - m = (l.length - (m + 1)) + 1 := by omega
  rw [h, hL, e, List.take_add_one, List.getElem?_reverse (by omega)]
  have e2 : l.length - 1 - (l.length - (m + 1)) = m := by omega
  rw [e2, hx]; rfl
end Go.Proofs.YtbnjaaegbmhopaaGreatDoor
end
section
/- Features: EqualFeatures and EqualSources of the model. -/
namespace Go.Proofs.YtbnjaaegbmhopaaGreatDoor
open Go.ChangeShapes Go.WideShapes Go.ChangeAt Go.RowKit
set_option linter.unusedVariables false

instance decName (a b : ByteArray) : Decidable (a = b) := if h : a.data = b.data then .isTrue (by cases a; cases b; simp_all) else .isFalse (fun e => h (by rw [e]))
instance decFeat (f g : Feat) : Decidable (f = g) :=
  if h : f.1 = g.1 ∧ f.2.1 = g.2.1 ∧ f.2.2.1 = g.2.2.1 ∧ f.2.2.2.1 = g.2.2.2.1 ∧ f.2.2.2.2 = g.2.2.2.2 then .isTrue (by
    obtain ⟨f0, f1, f2, f3, f4⟩ := f
    obtain ⟨g0, g1, g2, g3, g4⟩ := g
    obtain ⟨h0, h1, h2, h3, h4⟩ := h
    dsimp only at h0 h1 h2 h3 h4
    rw [h0, h1, h2, h3, h4])
  else .isFalse (fun e => h (by rw [e]; exact ⟨rfl, rfl, rfl, rfl, rfl⟩))
instance decFeats : DecidableEq (List Feat) := @instDecidableEqList Feat decFeat
theorem str_ne {s s' : ByteArray} (h : ¬ s = s') : (s.toList == s'.toList) = false := by
  rw [ByteArray.toList_eq, ByteArray.toList_eq, beq_eq_false_iff_ne]
  intro e
  apply h
  obtain ⟨d⟩ := s
  obtain ⟨d'⟩ := s'
  have : d = d' := Array.toList_inj.1 e
  rw [this]
/-- Features whose points are few. -/
def FewQ (l : List Feat) : Prop := ∀ (j : Nat) (f : Feat), l[j]? = some f → f.2.2.2.2.length ≤ 1099511627776
theorem eqL_no {l l' : List Feat} {j : Nat} {f g : Feat} (hf : l[j]? = some f) (hg : l'[j]? = some g) (h : ¬ f = g) : ¬ l = l' := fun e => by
  subst e
  rw [hf] at hg
  exact h (Option.some.inj hg)
end Go.Proofs.YtbnjaaegbmhopaaGreatDoor
end
section
/- Features: IsName, FindFeature, EqualFeatures, EqualSources of package impl. -/
namespace Go.Proofs.YtbnjaaegbmhopaaGreatDoor
open Go.ChangeShapes Go.WideShapes Go.ChangeAt Go.RowKit
set_option linter.unusedVariables false

theorem all_no {s : ByteArray} {k : Nat} (h : k < s.size) (hc : s[k].toNat < 97 ∨ 122 < s[k].toNat) : s.data.toList.all lowB = false := by
  rw [List.all_eq_false]
  refine ⟨s[k], name_mem s k h, ?_⟩
  simp only [lowB, Bool.and_eq_true, decide_eq_true_eq]
  omega
theorem all_end {s : ByteArray} (h : ∀ c ∈ s.data.toList.take s.size, lowB c = true) : s.data.toList.all lowB = true := by
  have hl : s.data.toList.length = s.size := Array.length_toList
  rw [← hl, List.take_length] at h
  exact List.all_eq_true.2 h
set_option maxRecDepth 100000 in
theorem areLetters_is (s : ByteArray) (z : Bool) (w : World) (hz : s.data.toList.all lowB = z) :
    Calls Tryz.prog 135 #[.string s] w fun e w' => e = .returned (.bool z) ∧ Below w.heap.size w w' := by
  have HZ := Lib.hid hz
  clear hz
  have HB := Lib.hid (fun p : Nat => (show Below w.heap.size w (w.iter s p) from (Below.refl _ _).alloc (Nat.le_refl _) _))
  go_enter Tryz.func135, Tryz.ntmps135
  go_wp2
  go_loopg [] s.size (fun g wr => ∃ pos : Nat, pos + g = s.size ∧ wr = w.iter s pos ∧ Hid (∀ c ∈ s.data.toList.take pos, lowB c = true))
  case atStart => exact ⟨0, by omega, rfl, Lib.hid (by simp)⟩
  case round =>
    obtain ⟨pos, hg, rfl, HT⟩ := hrel
    by_cases hp : pos < s.size
    · by_cases ha : (s[pos]'hp).toNat < 128
      · have hnx : ∀ ty, (Instr.next (.pointer (some ⟨w.heap.size, 0, none⟩)) true ty).run Tryz.prog (w.iter s pos) = _ := fun ty => run_next_ascii w s pos ty hp ha
        by_cases h1 : (s[pos]'hp).toNat < 97
        · have h1' : (((s[pos]'hp).toNat : Nat) : Int) < 97 := by omega
          obtain rfl : false = z := (all_no hp (.inl h1)).symm.trans HZ.out
          clear h1
          go_wp2
          go_ret
          exact ⟨rfl, HB.out _⟩
        · have h1' : ¬ (((s[pos]'hp).toNat : Nat) : Int) < 97 := by omega
          by_cases h2 : 122 < (s[pos]'hp).toNat
          · have h2' : (122 : Int) < (((s[pos]'hp).toNat : Nat) : Int) := by omega
            obtain rfl : false = z := (all_no hp (.inr h2)).symm.trans HZ.out
            clear h1 h2
            go_wp2
            go_ret
            exact ⟨rfl, HB.out _⟩
          · have h2' : ¬ (122 : Int) < (((s[pos]'hp).toNat : Nat) : Int) := by omega
            have HN := Lib.hid (name_step hp HT.out (by omega) (by omega))
            clear h1 h2
            go_wp2
            go_roundg (s.size - (pos + 1))
            case measure => omega
            case rel => exact ⟨pos + 1, by omega, rfl, HN⟩
      · have hnx : ∀ ty, (Instr.next (.pointer (some ⟨w.heap.size, 0, none⟩)) true ty).run Tryz.prog (w.iter s pos) = _ := fun ty => run_next_any w s pos ty hp
        have hd := (decode_high s pos hp (by omega)).1
        have hd2 := decode_le s pos
        obtain rfl : false = z := (all_no hp (.inr (by omega))).symm.trans HZ.out
        obtain ⟨r, hr⟩ : ∃ r, (Utf8.decode s pos).1 = r := ⟨_, rfl⟩
        rw [hr] at hd hd2 hnx
        have h1' : ¬ ((r : Nat) : Int) < 97 := by omega
        have h2' : (122 : Int) < ((r : Nat) : Int) := by omega
        clear hr
        go_wp2
        go_ret
        exact ⟨rfl, HB.out _⟩
    · have hnx : ∀ ty, (Instr.next (.pointer (some ⟨w.heap.size, 0, none⟩)) true ty).run Tryz.prog (w.iter s pos) = _ := fun ty => run_next_end w s pos ty hp
      obtain rfl : pos = s.size := by omega
      obtain rfl : true = z := (all_end HT.out).symm.trans HZ.out
      go_wp2
      go_ret
      exact ⟨rfl, HB.out _⟩
set_option maxRecDepth 100000 in
theorem isName_is (s : ByteArray) (z : Bool) (w : World) (hm : s.size ≤ maxLen) (hz : nameV s = z) :
    Calls Tryz.prog 99 #[.string s] w fun e w' => e = .returned (.bool z) ∧ Below w.heap.size w w' := by
  unfold maxLen at hm
  obtain ⟨p, hp⟩ : ∃ p, inB (s.size : Int) 1 8 = p := ⟨_, rfl⟩
  obtain ⟨q, hq⟩ : ∃ q, s.data.toList.all lowB = q := ⟨_, rfl⟩
  obtain rfl : (p && q) = z := by rw [← hz, ← hp, ← hq]; simp [nameV, Bool.and_comm]
  have HP := Lib.hid hp
  have HQ := Lib.hid hq
  clear hp hq hz
  go_enter Tryz.func99, Tryz.ntmps99
  cases p
  all_goals
    go_wp2_with (first
      | (go_at_call 48; refine (in_is _ _ _ _ _ HP.out).mono ?_; rintro e w1 ⟨rfl, rfl⟩)
      | (go_at_call 135; refine (areLetters_is s q _ HQ.out).mono ?_; rintro e w1 ⟨rfl, hb1⟩))
    go_ret
    first | exact ⟨rfl, hb1⟩ | exact ⟨rfl, Below.refl _ _⟩
end Go.Proofs.YtbnjaaegbmhopaaGreatDoor
end
section
/- Lines: IsSimple of package impl, over meetInTurn. -/
namespace Go.Proofs.YtbnjaaegbmhopaaGreatDoor
open Go.ChangeShapes Go.WideShapes Go.ChangeAt Go.RowKit
set_option linter.unusedVariables false

theorem smp_turn (l : List (Int × Int)) : smpV l = (turnV false (sgV l) && isLn l) := by
  unfold smpV turnV
  congr 1
  refine decide_eq_decide.2 ⟨fun h k hk i hi => ?_, fun h k hk i hi => ?_⟩
  · have := h k hk i hi
    obtain ⟨u, hu⟩ : ∃ u, (sgV l)[i]? = some u := ⟨_, List.getElem?_eq_getElem (by omega)⟩
    obtain ⟨v, hv⟩ : ∃ v, (sgV l)[k]? = some v := ⟨_, List.getElem?_eq_getElem hk⟩
    rw [mtOk_at hu hv] at this
    rw [prOk_at hu hv, show wantC false (sgV l).length i k = if i + 1 = k then 1 else 0 by unfold wantC; simp]
    exact this
  · have := h k hk i hi
    obtain ⟨u, hu⟩ : ∃ u, (sgV l)[i]? = some u := ⟨_, List.getElem?_eq_getElem (by omega)⟩
    obtain ⟨v, hv⟩ : ∃ v, (sgV l)[k]? = some v := ⟨_, List.getElem?_eq_getElem hk⟩
    rw [prOk_at hu hv, show wantC false (sgV l).length i k = if i + 1 = k then 1 else 0 by unfold wantC; simp] at this
    rw [mtOk_at hu hv]
    exact this
set_option maxRecDepth 100000 in
set_option maxHeartbeats 4000000 in
theorem isSimple_is (A : Option Addr) (c : Nat) (l : List (Int × Int)) (w : World) (hs : SeesE 2 encPoint w w.heap.size A l) (hl : l.length ≤ 1099511627776) (z : Bool) (hz : smpV l = z) :
    Calls Tryz.prog 202 #[.slice A l.length c] w fun e w' => e = .returned (.bool z) ∧ Below w.heap.size w w' := by
  have HS := Lib.hid hs; clear hs
  have HZ : Hid ((turnV false (sgV l) && isLn l) = z) := Lib.hid (by rw [← smp_turn]; exact hz)
  clear hz
  go_enter Tryz.func202, Tryz.ntmps202
  cases hi : isLn l
  · obtain rfl : z = false := by rw [← HZ.out, hi, Bool.and_false]
    have h0 : Hid (sgV l = []) := Lib.hid (sgV_no hi)
    go_wp2_with fail
    refine (segmentsOf_any A c l _ HS.out hl).mono ?_
    rintro e w1 ⟨A1, c1, L, hL, rfl, ho1, hb1⟩
    have hn : L.length = 0 := by rw [hL.out, h0.out]; rfl
    have hn2 : ((L.length : Nat) : Int) = 0 := by omega
    have HB1 := Lib.hid hb1
    rw [hn]
    clear ho1 hb1 hn hn2
    go_wp2
    go_ret
    exact ⟨rfl, HB1.out⟩
  · have hz' : turnV false (sgV l) = z := by rw [← HZ.out, hi, Bool.and_true]
    have HT := Lib.hid hz'
    clear hz'
    go_wp2_with fail
    refine (segmentsOf_any A c l _ HS.out hl).mono ?_
    rintro e w1 ⟨A1, c1, L, hL, rfl, ho1, hb1⟩
    have hn : (0 : Int) < (L.length : Int) := by have := sgV_pos hi; rw [← hL.out] at this; omega
    have h9 : L.length ≤ 1000 := by rw [hL.out]; have := sgV_len l; omega
    have HB1 := Lib.hid hb1; have HO1 := Lib.hid ho1
    have HT2 : Hid (turnV false L = z) := Lib.hid (by rw [hL.out]; exact HT.out)
    clear ho1 hb1
    go_wp2_with (go_at_call 78; refine (meetInTurn_is A1 c1 false L _ (HO1.out.sees elSegment) h9 _ HT2.out).mono ?_; rintro e w2 ⟨rfl, hb2⟩)
    go_ret
    exact ⟨by cases z <;> rfl, HB1.out.trans (hb2.mono HB1.out.size)⟩
end Go.Proofs.YtbnjaaegbmhopaaGreatDoor
end
section
/- Features: IsFeature of package impl. -/
namespace Go.Proofs.YtbnjaaegbmhopaaGreatDoor
open Go.ChangeShapes Go.WideShapes Go.ChangeAt Go.RowKit
set_option linter.unusedVariables false

set_option maxRecDepth 100000 in
theorem pointValid_is (A : Option Addr) (c : Nat) (ps : List (Int × Int)) (z : Bool) (w : World) (hs : SeesE 2 encPoint w w.heap.size A ps) (hz : onePt ps = z) :
    Calls Tryz.prog 200 #[.slice A ps.length c] w fun e w' => e = .returned (.bool z) ∧ Below w.heap.size w w' := by
  have HS := Lib.hid hs; have HZ := Lib.hid hz
  clear hs hz
  go_enter Tryz.func200, Tryz.ntmps200
  by_cases hl1 : ps.length = 1
  · obtain ⟨⟨x, y⟩, rfl⟩ : ∃ p, ps = [p] := by
      match ps, hl1 with
      | [p], _ => exact ⟨p, rfl⟩
    obtain ⟨b, off, rfl, -, -⟩ := HS.out 0 _ rfl
    obtain ⟨q0, q1⟩ := cellsPoint0 HS.out rfl
    clear hl1
    go_wp2_with fail
    refine (isPoint_is x y z _ HZ.out).mono ?_
    rintro e w1 ⟨rfl, hb1⟩
    have HB := Lib.hid hb1
    clear hb1
    go_wp2
    go_ret
    exact ⟨rfl, HB.out⟩
  · have hl1' : ¬ (ps.length : Int) = 1 := by omega
    obtain rfl : false = z := (one_no hl1).symm.trans HZ.out
    clear hl1
    go_wp2
    go_ret
    exact ⟨rfl, Below.refl _ _⟩
theorem lineValid_is (A : Option Addr) (c : Nat) (ps : List (Int × Int)) (z : Bool) (w : World) (hs : SeesE 2 encPoint w w.heap.size A ps) (hl : ps.length ≤ 274877906944) (hz : smpV ps = z) :
    Calls Tryz.prog 201 #[.slice A ps.length c] w fun e w' => e = .returned (.bool z) ∧ Below w.heap.size w w' := by
  go_enter Tryz.func201, Tryz.ntmps201
  go_wp2_with fail
  refine (isSimple_is A c ps w hs (by omega) z hz).mono ?_
  rintro e w1 ⟨rfl, hb1⟩
  go_wp2
  go_ret
  exact ⟨rfl, hb1⟩
theorem areaValid_is (a0 : Addr) (A : Option Addr) (c : Nat) (ps : List (Int × Int)) (z : Bool) (w : World) (hE : ErrAt a0 w) (hs : SeesE 2 encPoint w w.heap.size A ps) (hl : ps.length ≤ 274877906944) (hlc : ps.length ≤ c) (hc : (c : Int) ≤ 9223372036854775807) (hz : isRg ps = z) :
    Calls Tryz.prog 203 #[.slice A ps.length c] w fun e w' => e = .returned (.bool z) ∧ Below w.heap.size w w' := by
  go_enter Tryz.func203, Tryz.ntmps203
  go_wp2_with fail
  refine (isRing_is a0 A c ps w hE hs hl hlc hc z hz).mono ?_
  rintro e w1 ⟨rfl, hb1⟩
  go_wp2
  go_ret
  exact ⟨rfl, hb1⟩
theorem noValid_is (z : Bool) (w : World) (hz : false = z) :
    Calls Tryz.prog 204 #[.agg #[]] w fun e w' => e = .returned (.bool z) ∧ Below w.heap.size w w' := by
  subst hz
  go_enter Tryz.func204, Tryz.ntmps204
  go_wp2
  go_ret
  first | exact ⟨rfl, Below.refl _ _⟩ | exact ⟨rfl, (Below.refl _ _).alloc (Nat.le_refl _) _⟩
theorem variantOf_point (a r : Int) (s : ByteArray) (A : Option Addr) (n c : Nat) (w : World) :
    Calls Tryz.prog 100 #[FtV a 1 r s A n c] w fun e w' => e = .returned (.iface 180 (.slice A n c)) ∧ Below w.heap.size w w' := by
  go_enter Tryz.func100, Tryz.ntmps100
  go_wp2
  go_ret
  exact ⟨rfl, (Below.refl _ _).alloc (Nat.le_refl _) _⟩
theorem variantOf_line (a r : Int) (s : ByteArray) (A : Option Addr) (n c : Nat) (w : World) :
    Calls Tryz.prog 100 #[FtV a 2 r s A n c] w fun e w' => e = .returned (.iface 181 (.slice A n c)) ∧ Below w.heap.size w w' := by
  go_enter Tryz.func100, Tryz.ntmps100
  go_wp2
  go_ret
  exact ⟨rfl, (Below.refl _ _).alloc (Nat.le_refl _) _⟩
theorem variantOf_area (a r : Int) (s : ByteArray) (A : Option Addr) (n c : Nat) (w : World) :
    Calls Tryz.prog 100 #[FtV a 3 r s A n c] w fun e w' => e = .returned (.iface 182 (.slice A n c)) ∧ Below w.heap.size w w' := by
  go_enter Tryz.func100, Tryz.ntmps100
  go_wp2
  go_ret
  exact ⟨rfl, (Below.refl _ _).alloc (Nat.le_refl _) _⟩
theorem variantOf_no (a k r : Int) (s : ByteArray) (A : Option Addr) (n c : Nat) (w : World) (e1 : ¬ k = 1) (e2 : ¬ k = 2) (e3 : ¬ k = 3) :
    Calls Tryz.prog 100 #[FtV a k r s A n c] w fun e w' => e = .returned (.iface 184 (.agg #[])) ∧ Below w.heap.size w w' := by
  go_enter Tryz.func100, Tryz.ntmps100
  go_wp2
  go_ret
  exact ⟨rfl, (Below.refl _ _).alloc (Nat.le_refl _) _⟩
set_option maxRecDepth 100000 in
set_option maxHeartbeats 8000000 in
theorem isFeature_is (a0 : Addr) (a k r : Int) (s : ByteArray) (A : Option Addr) (c : Nat) (ps : List (Int × Int)) (z : Bool) (w : World) (hE : ErrAt a0 w) (hs : SeesE 2 encPoint w w.heap.size A ps) (hl : ps.length ≤ 274877906944) (hlc : ps.length ≤ c) (hc : (c : Int) ≤ 9223372036854775807) (hm : s.size ≤ maxLen) (hz : featV (a, k, r, s, ps) = z) :
    Calls Tryz.prog 60 #[FtV a k r s A ps.length c] w fun e w' => e = .returned (.bool z) ∧ Below w.heap.size w w' := by
  have hmpoint : ∀ (v : Value) (w : World), (Go.method 358 180 v "loop.example/g03005/impl.isValid").run Tryz.prog w = .ok (200, v) w := fun _ _ => by kernel_rfl
  have hmline : ∀ (v : Value) (w : World), (Go.method 358 181 v "loop.example/g03005/impl.isValid").run Tryz.prog w = .ok (201, v) w := fun _ _ => by kernel_rfl
  have hmarea : ∀ (v : Value) (w : World), (Go.method 358 182 v "loop.example/g03005/impl.isValid").run Tryz.prog w = .ok (203, v) w := fun _ _ => by kernel_rfl
  have hmno : ∀ (v : Value) (w : World), (Go.method 358 184 v "loop.example/g03005/impl.isValid").run Tryz.prog w = .ok (204, v) w := fun _ _ => by kernel_rfl
  have HV := Lib.hid (Vars.of1 w (FtC a k r s A ps.length c) 41)
  have HS := Lib.hid hs; have HE := Lib.hid hE; have HZ := Lib.hid hz; have HM := Lib.hid hm
  clear hs hE hz hm
  go_enter Tryz.func60, Tryz.ntmps60
  cases h1 : inB a 1 99
  · obtain rfl : false = z := (feat_1 h1).symm.trans HZ.out
    go_wp2_with fail
    refine (in_is _ _ _ false _ h1).mono ?_
    rintro e9 w9 ⟨rfl, rfl⟩
    go_wp2
    go_ret
    exact ⟨rfl, HV.out.1⟩
  cases h2 : inB r 0 9
  · obtain rfl : false = z := (feat_2 h2).symm.trans HZ.out
    go_wp2_with fail
    refine (in_is _ _ _ true _ h1).mono ?_
    rintro e9 w9 ⟨rfl, rfl⟩
    go_wp2_with fail
    refine (in_is _ _ _ false _ h2).mono ?_
    rintro e9 w9 ⟨rfl, rfl⟩
    go_wp2
    go_ret
    exact ⟨rfl, HV.out.1⟩
  obtain ⟨n, hn⟩ : ∃ n, nameV s = n := ⟨_, rfl⟩
  obtain ⟨m, hm⟩ : ∃ m, decide (s.size = 0) = m := ⟨_, rfl⟩
  have he := empty_is s hm
  by_cases hbad : m = false ∧ n = false
  · obtain ⟨rfl, rfl⟩ := hbad
    obtain rfl : false = z := (feat_3 (of_decide_eq_false hm) hn).symm.trans HZ.out
    clear hm
    go_wp2_with fail
    refine (in_is _ _ _ true _ h1).mono ?_
    rintro e9 w9 ⟨rfl, rfl⟩
    go_wp2_with fail
    refine (in_is _ _ _ true _ h2).mono ?_
    rintro e9 w9 ⟨rfl, rfl⟩
    go_wp2_with fail
    refine (isName_is s false _ HM.out hn).mono ?_
    rintro e9 w9 ⟨rfl, hb9⟩
    have HV := Lib.hid (HV.out.next hb9)
    clear hb9
    obtain ⟨k0, k1, k2, k3, k4⟩ := HV.out.c50
    go_wp2
    go_ret
    exact ⟨rfl, HV.out.1⟩
  have HX : Hid (shapeV k ps = z) := Lib.hid (by
    rw [← feat_4 (s := s) h1 h2 ?_]; exact HZ.out
    cases m
    · cases n
      · exact absurd ⟨rfl, rfl⟩ hbad
      · exact .inr hn
    · exact .inl (of_decide_eq_true hm))
  clear HZ
  cases m
  · cases n
    · exact absurd ⟨rfl, rfl⟩ hbad
    clear hm hbad
    by_cases e1 : k = 1
    · subst e1
      rw [shape_1] at HX
      go_wp2_with fail
      refine (in_is _ _ _ true _ h1).mono ?_
      rintro e9 w9 ⟨rfl, rfl⟩
      go_wp2_with fail
      refine (in_is _ _ _ true _ h2).mono ?_
      rintro e9 w9 ⟨rfl, rfl⟩
      go_wp2_with fail
      refine (isName_is s true _ HM.out hn).mono ?_
      rintro e9 w9 ⟨rfl, hb9⟩
      have HV := Lib.hid (HV.out.next hb9)
      clear hb9
      obtain ⟨k0, k1, k2, k3, k4⟩ := HV.out.c50
      go_wp2_with fail
      refine (variantOf_point a r s A ps.length c _).mono ?_
      rintro e9 w9 ⟨rfl, hb9⟩
      have HV := Lib.hid (HV.out.next hb9)
      clear hb9
      obtain ⟨k0, k1, k2, k3, k4⟩ := HV.out.c50
      go_wp2_with fail
      refine (pointValid_is A c ps z _ ((HS.out.below HV.out.1).mono HV.out.1.size) HX.out).mono ?_
      rintro e9 w9 ⟨rfl, hb9⟩
      have HV := Lib.hid (HV.out.next hb9)
      clear hb9
      obtain ⟨k0, k1, k2, k3, k4⟩ := HV.out.c50
      go_wp2
      go_ret
      exact ⟨rfl, HV.out.1⟩
    by_cases e2 : k = 2
    · subst e2
      rw [shape_2] at HX
      go_wp2_with fail
      refine (in_is _ _ _ true _ h1).mono ?_
      rintro e9 w9 ⟨rfl, rfl⟩
      go_wp2_with fail
      refine (in_is _ _ _ true _ h2).mono ?_
      rintro e9 w9 ⟨rfl, rfl⟩
      go_wp2_with fail
      refine (isName_is s true _ HM.out hn).mono ?_
      rintro e9 w9 ⟨rfl, hb9⟩
      have HV := Lib.hid (HV.out.next hb9)
      clear hb9
      obtain ⟨k0, k1, k2, k3, k4⟩ := HV.out.c50
      go_wp2_with fail
      refine (variantOf_line a r s A ps.length c _).mono ?_
      rintro e9 w9 ⟨rfl, hb9⟩
      have HV := Lib.hid (HV.out.next hb9)
      clear hb9
      obtain ⟨k0, k1, k2, k3, k4⟩ := HV.out.c50
      go_wp2_with fail
      refine (lineValid_is A c ps z _ ((HS.out.below HV.out.1).mono HV.out.1.size) hl HX.out).mono ?_
      rintro e9 w9 ⟨rfl, hb9⟩
      have HV := Lib.hid (HV.out.next hb9)
      clear hb9
      obtain ⟨k0, k1, k2, k3, k4⟩ := HV.out.c50
      go_wp2
      go_ret
      exact ⟨rfl, HV.out.1⟩
    by_cases e3 : k = 3
    · subst e3
      rw [shape_3] at HX
      go_wp2_with fail
      refine (in_is _ _ _ true _ h1).mono ?_
      rintro e9 w9 ⟨rfl, rfl⟩
      go_wp2_with fail
      refine (in_is _ _ _ true _ h2).mono ?_
      rintro e9 w9 ⟨rfl, rfl⟩
      go_wp2_with fail
      refine (isName_is s true _ HM.out hn).mono ?_
      rintro e9 w9 ⟨rfl, hb9⟩
      have HV := Lib.hid (HV.out.next hb9)
      clear hb9
      obtain ⟨k0, k1, k2, k3, k4⟩ := HV.out.c50
      go_wp2_with fail
      refine (variantOf_area a r s A ps.length c _).mono ?_
      rintro e9 w9 ⟨rfl, hb9⟩
      have HV := Lib.hid (HV.out.next hb9)
      clear hb9
      obtain ⟨k0, k1, k2, k3, k4⟩ := HV.out.c50
      go_wp2_with fail
      refine (areaValid_is a0 A c ps z _ (HE.out.all HV.out.1) ((HS.out.below HV.out.1).mono HV.out.1.size) hl hlc hc HX.out).mono ?_
      rintro e9 w9 ⟨rfl, hb9⟩
      have HV := Lib.hid (HV.out.next hb9)
      clear hb9
      obtain ⟨k0, k1, k2, k3, k4⟩ := HV.out.c50
      go_wp2
      go_ret
      exact ⟨rfl, HV.out.1⟩
    rw [shape_0 ps e1 e2 e3] at HX
    go_wp2_with fail
    refine (in_is _ _ _ true _ h1).mono ?_
    rintro e9 w9 ⟨rfl, rfl⟩
    go_wp2_with fail
    refine (in_is _ _ _ true _ h2).mono ?_
    rintro e9 w9 ⟨rfl, rfl⟩
    go_wp2_with fail
    refine (isName_is s true _ HM.out hn).mono ?_
    rintro e9 w9 ⟨rfl, hb9⟩
    have HV := Lib.hid (HV.out.next hb9)
    clear hb9
    obtain ⟨k0, k1, k2, k3, k4⟩ := HV.out.c50
    go_wp2_with fail
    refine (variantOf_no a k r s A ps.length c _ e1 e2 e3).mono ?_
    rintro e9 w9 ⟨rfl, hb9⟩
    have HV := Lib.hid (HV.out.next hb9)
    clear hb9
    obtain ⟨k0, k1, k2, k3, k4⟩ := HV.out.c50
    go_wp2_with fail
    refine (noValid_is z _ HX.out).mono ?_
    rintro e9 w9 ⟨rfl, hb9⟩
    have HV := Lib.hid (HV.out.next hb9)
    clear hb9
    obtain ⟨k0, k1, k2, k3, k4⟩ := HV.out.c50
    go_wp2
    go_ret
    exact ⟨rfl, HV.out.1⟩
  · clear hm hbad
    by_cases e1 : k = 1
    · subst e1
      rw [shape_1] at HX
      go_wp2_with fail
      refine (in_is _ _ _ true _ h1).mono ?_
      rintro e9 w9 ⟨rfl, rfl⟩
      go_wp2_with fail
      refine (in_is _ _ _ true _ h2).mono ?_
      rintro e9 w9 ⟨rfl, rfl⟩
      go_wp2_with fail
      refine (variantOf_point a r s A ps.length c _).mono ?_
      rintro e9 w9 ⟨rfl, hb9⟩
      have HV := Lib.hid (HV.out.next hb9)
      clear hb9
      obtain ⟨k0, k1, k2, k3, k4⟩ := HV.out.c50
      go_wp2_with fail
      refine (pointValid_is A c ps z _ ((HS.out.below HV.out.1).mono HV.out.1.size) HX.out).mono ?_
      rintro e9 w9 ⟨rfl, hb9⟩
      have HV := Lib.hid (HV.out.next hb9)
      clear hb9
      obtain ⟨k0, k1, k2, k3, k4⟩ := HV.out.c50
      go_wp2
      go_ret
      exact ⟨rfl, HV.out.1⟩
    by_cases e2 : k = 2
    · subst e2
      rw [shape_2] at HX
      go_wp2_with fail
      refine (in_is _ _ _ true _ h1).mono ?_
      rintro e9 w9 ⟨rfl, rfl⟩
      go_wp2_with fail
      refine (in_is _ _ _ true _ h2).mono ?_
      rintro e9 w9 ⟨rfl, rfl⟩
      go_wp2_with fail
      refine (variantOf_line a r s A ps.length c _).mono ?_
      rintro e9 w9 ⟨rfl, hb9⟩
      have HV := Lib.hid (HV.out.next hb9)
      clear hb9
      obtain ⟨k0, k1, k2, k3, k4⟩ := HV.out.c50
      go_wp2_with fail
      refine (lineValid_is A c ps z _ ((HS.out.below HV.out.1).mono HV.out.1.size) hl HX.out).mono ?_
      rintro e9 w9 ⟨rfl, hb9⟩
      have HV := Lib.hid (HV.out.next hb9)
      clear hb9
      obtain ⟨k0, k1, k2, k3, k4⟩ := HV.out.c50
      go_wp2
      go_ret
      exact ⟨rfl, HV.out.1⟩
    by_cases e3 : k = 3
    · subst e3
      rw [shape_3] at HX
      go_wp2_with fail
      refine (in_is _ _ _ true _ h1).mono ?_
      rintro e9 w9 ⟨rfl, rfl⟩
      go_wp2_with fail
      refine (in_is _ _ _ true _ h2).mono ?_
      rintro e9 w9 ⟨rfl, rfl⟩
      go_wp2_with fail
      refine (variantOf_area a r s A ps.length c _).mono ?_
      rintro e9 w9 ⟨rfl, hb9⟩
      have HV := Lib.hid (HV.out.next hb9)
      clear hb9
      obtain ⟨k0, k1, k2, k3, k4⟩ := HV.out.c50
      go_wp2_with fail
      refine (areaValid_is a0 A c ps z _ (HE.out.all HV.out.1) ((HS.out.below HV.out.1).mono HV.out.1.size) hl hlc hc HX.out).mono ?_
      rintro e9 w9 ⟨rfl, hb9⟩
      have HV := Lib.hid (HV.out.next hb9)
      clear hb9
      obtain ⟨k0, k1, k2, k3, k4⟩ := HV.out.c50
      go_wp2
      go_ret
      exact ⟨rfl, HV.out.1⟩
    rw [shape_0 ps e1 e2 e3] at HX
    go_wp2_with fail
    refine (in_is _ _ _ true _ h1).mono ?_
    rintro e9 w9 ⟨rfl, rfl⟩
    go_wp2_with fail
    refine (in_is _ _ _ true _ h2).mono ?_
    rintro e9 w9 ⟨rfl, rfl⟩
    go_wp2_with fail
    refine (variantOf_no a k r s A ps.length c _ e1 e2 e3).mono ?_
    rintro e9 w9 ⟨rfl, hb9⟩
    have HV := Lib.hid (HV.out.next hb9)
    clear hb9
    obtain ⟨k0, k1, k2, k3, k4⟩ := HV.out.c50
    go_wp2_with fail
    refine (noValid_is z _ HX.out).mono ?_
    rintro e9 w9 ⟨rfl, hb9⟩
    have HV := Lib.hid (HV.out.next hb9)
    clear hb9
    obtain ⟨k0, k1, k2, k3, k4⟩ := HV.out.c50
    go_wp2
    go_ret
    exact ⟨rfl, HV.out.1⟩
end Go.Proofs.YtbnjaaegbmhopaaGreatDoor
end
section
/- PartsOf and FeaturesMeet of package impl. -/
namespace Go.Proofs.YtbnjaaegbmhopaaGreatDoor
open Go.ChangeShapes Go.WideShapes Go.ChangeAt Go.RowKit
set_option linter.unusedVariables false

theorem maxW_is (a b z : Int) (w : World) (hz : extV true a b = z) :
    Calls Tryz.prog 94 #[.int .i64 a, .int .i64 b] w fun e w' => e = .returned (.int .i64 z) ∧ Below w.heap.size w w' := by
  subst hz
  go_enter Tryz.func94, Tryz.ntmps94
  go_wp2_with (go_at_call 128; refine (ext_any _ _ b _ _ (by simp [go_sem])).mono ?_; rintro e w' ⟨rfl, rfl⟩)
  go_ret
  exact ⟨rfl, by repeat (first | exact Below.refl _ _ | apply Below.drew | (refine Below.alloc ?_ (Nat.le_refl _) _))⟩
set_option maxRecDepth 100000 in
set_option maxHeartbeats 1000000 in
theorem partsOf_any (a0 : Addr) (a k r : Int) (s : ByteArray) (A : Option Addr) (c : Nat) (ps : List (Int × Int)) (w : World) (hE : ErrAt a0 w) (hs : SeesE 2 encPoint w w.heap.size A ps) (hl : ps.length ≤ 274877906944) (hlc : ps.length ≤ c) (hc : (c : Int) ≤ 9223372036854775807) (hm : s.size ≤ maxLen) :
    Calls Tryz.prog 28 #[FtV a k r s A ps.length c] w (GivesE 4 encSegment 78 (partsV (a, k, r, s, ps)) w) := by
  have HV := Lib.hid (Vars.of1 w (FtC a k r s A ps.length c) 41)
  have HS := Lib.hid ((hs.below HV.out.1).mono HV.out.1.size)
  have HE := Lib.hid (hE.all HV.out.1)
  clear hs hE
  go_enter Tryz.func28, Tryz.ntmps28
  cases hq : featV (a, k, r, s, ps)
  · have HP := Lib.hid (parts_no hq)
    go_wp2_with fail
    refine (isFeature_is a0 a k r s A c ps _ _ HE.out HS.out hl hlc hc hm hq).mono ?_
    rintro e w1 ⟨rfl, hb1⟩
    have HV := Lib.hid (HV.out.next hb1)
    clear hb1
    go_wp2
    go_ret
    exact ⟨_, _, [], Lib.hid HP.out.symm, rfl, (OwnE.lit w1 w1.heap.size 78 (Nat.le_refl _)).mono HV.out.1.size, HV.out.1.alloc HV.out.1.size _⟩
  · by_cases e2 : k = 2
    · subst e2
      have HP := Lib.hid (parts_2 hq)
      go_wp2_with fail
      refine (isFeature_is a0 a 2 r s A c ps _ _ HE.out HS.out hl hlc hc hm hq).mono ?_
      rintro e w1 ⟨rfl, hb1⟩
      have HS1 := Lib.hid (HS.out.belowAll hb1)
      have HV := Lib.hid (HV.out.next hb1)
      clear hb1
      obtain ⟨k0, k1, k2, k3, k4⟩ := HV.out.c50
      go_wp2_with fail
      refine (segmentsOf_any A c ps _ HS1.out (by omega)).mono ?_
      rintro e w2 ⟨A2, c2, L, hL, rfl, ho2, hb2⟩
      have HO := Lib.hid (ho2.mono HV.out.1.size)
      have HV := Lib.hid (HV.out.next hb2)
      clear ho2 hb2
      go_wp2
      go_ret
      exact ⟨A2, c2, L, Lib.hid (by rw [hL.out, HP.out]), rfl, HO.out, HV.out.1⟩
    by_cases e3 : k = 3
    · subst e3
      have HP := Lib.hid (parts_3 hq)
      go_wp2_with fail
      refine (isFeature_is a0 a 3 r s A c ps _ _ HE.out HS.out hl hlc hc hm hq).mono ?_
      rintro e w1 ⟨rfl, hb1⟩
      have HS1 := Lib.hid (HS.out.belowAll hb1)
      have HE1 := Lib.hid (HE.out.all hb1)
      have HV := Lib.hid (HV.out.next hb1)
      clear hb1
      obtain ⟨k0, k1, k2, k3, k4⟩ := HV.out.c50
      go_wp2_with fail
      refine (ringSegments_any a0 A c ps _ HE1.out HS1.out hl hlc hc).mono ?_
      rintro e w2 ⟨A2, c2, L, hL, rfl, ho2, hb2⟩
      have HO := Lib.hid (ho2.mono HV.out.1.size)
      have HV := Lib.hid (HV.out.next hb2)
      clear ho2 hb2
      go_wp2
      go_ret
      exact ⟨A2, c2, L, Lib.hid (by rw [hL.out, HP.out]), rfl, HO.out, HV.out.1⟩
    have HP := Lib.hid (parts_0 (a := a) (r := r) (s := s) (ps := ps) e2 e3)
    go_wp2_with fail
    refine (isFeature_is a0 a k r s A c ps _ _ HE.out HS.out hl hlc hc hm hq).mono ?_
    rintro e w1 ⟨rfl, hb1⟩
    have HV := Lib.hid (HV.out.next hb1)
    clear hb1
    obtain ⟨k0, k1, k2, k3, k4⟩ := HV.out.c50
    go_wp2
    go_ret
    exact ⟨_, _, [], Lib.hid HP.out.symm, rfl, (OwnE.lit w1 w1.heap.size 78 (Nat.le_refl _)).mono HV.out.1.size, HV.out.1.alloc HV.out.1.size _⟩
theorem mxS_st {n : Int} {s : Sg} {T : List Sg} {j : Nat} {x : Sg} (hx : T[j]? = some x) : extV true (mxS n s (T.take j)) (howS s x) = mxS n s (T.take (j + 1)) := by
  rw [List.take_add_one, hx]; exact (mxS_snoc _ _ _ _).symm
theorem mtV_st {S T : List Sg} {i : Nat} {u : Sg} (hu : S[i]? = some u) : mxS (mtV (S.take i) T) u T = mtV (S.take (i + 1)) T := by
  rw [List.take_add_one, hu]; exact (mtV_snoc _ _ _).symm
set_option maxRecDepth 100000 in
set_option maxHeartbeats 4000000 in
theorem greatest_is (A A' : Option Addr) (c c' : Nat) (L L' : List Sg) (z : Int) (w : World) (hs : SeesE 4 encSegment w w.heap.size A L) (hs' : SeesE 4 encSegment w w.heap.size A' L') (hl : L.length ≤ 1000) (hl' : L'.length ≤ 1000) (hz : mtV L L' = z) :
    Calls Tryz.prog 56 #[.slice A L.length c, .slice A' L'.length c'] w fun e w' => e = .returned (.int .i64 z) ∧ Below w.heap.size w w' := by
  have HS := Lib.hid hs; have HS' := Lib.hid hs'; have HZ := Lib.hid hz
  clear hs hs' hz
  go_enter Tryz.func56, Tryz.ntmps56
  go_wp2
  go_loopw [5, 12] (fun n i wr => ∃ j : Nat, j ≤ L.length ∧ n = .int .i64 (mtV (L.take j) L') ∧ i = .int .i64 j ∧ Hid (Below w.heap.size w wr)) (fun _ i _ => L.length - (intOf i).toNat)
  case atStart => exact ⟨0, Nat.zero_le _, rfl, rfl, Lib.hid (Below.refl _ _)⟩
  case round =>
    obtain ⟨i, hi, rfl, rfl, HB⟩ := hrel
    by_cases hlt : i < L.length
    · have hli : (i : Int) < (L.length : Int) := by omega
      obtain ⟨b, off, u, rfl, hbl, hu, -⟩ := (HS.out.below HB.out).lt hlt
      obtain ⟨k0, k1, k2, k3⟩ := cells4 (HS.out.below HB.out) hu
      obtain ⟨N, hN⟩ : ∃ N, mtV (L.take i) L' = N := ⟨_, rfl⟩
      have HT : Hid (mxS N u L' = mtV (L.take (i + 1)) L') := Lib.hid (by rw [← hN]; exact mtV_st hu)
      rw [hN]
      have HB1 := Lib.hid (HB.out.alloc HB.out.size (.cells (sC u) 78))
      have HU := Lib.hid (OneV.new (m := 0) wr (Nat.zero_le _) (sC u) 78)
      clear hu hN
      go_wp2
      go_loopw [5, 18] (fun n k wx => ∃ j : Nat, j ≤ L'.length ∧ n = .int .i64 (mxS N u (L'.take j)) ∧ k = .int .i64 j ∧ Hid (OneV 0 wx wr.heap.size (sC u)) ∧ Hid (Below w.heap.size w wx)) (fun _ k _ => L'.length - (intOf k).toNat)
      case atStart => exact ⟨0, Nat.zero_le _, rfl, rfl, HU, HB1⟩
      case round =>
        obtain ⟨j, hj, rfl, rfl, HU2, HB2⟩ := hrel
        by_cases hlj : j < L'.length
        · have hlj' : (j : Int) < (L'.length : Int) := by omega
          obtain ⟨b', off', v, rfl, hbl', hv, -⟩ := (HS'.out.below HB2.out).lt hlj
          obtain ⟨k4, k5, k6, k7⟩ := cells4 (HS'.out.below HB2.out) hv
          obtain ⟨M, hM⟩ : ∃ M, mxS N u (L'.take j) = M := ⟨_, rfl⟩
          obtain ⟨m, hm⟩ : ∃ m, howS u v = m := ⟨_, rfl⟩
          have HX : Hid (extV true M m = mxS N u (L'.take (j + 1))) := Lib.hid (by rw [← hM, ← hm]; exact mxS_st hv)
          rw [hM]
          obtain ⟨x, hx⟩ : ∃ x, extV true M m = x := ⟨_, rfl⟩
          rw [hx] at HX
          have HU3 := Lib.hid (HU2.out.al (.cells (sC v) 78))
          have HB3 := Lib.hid (HB2.out.alloc HB2.out.size (.cells (sC v) 78))
          obtain ⟨q0, q1, q2, q3⟩ := HU3.out.c4
          clear hv hM
          go_wp2_with (first
            | (go_at_call 95; refine (howS_is u v _ _ hm).mono ?_; rintro e w9 ⟨rfl, hb9⟩; have HB9 := Lib.hid (HB3.out.trans (hb9.mono HB3.out.size)); have HU9 := Lib.hid (HU3.out.next hb9))
            | (go_at_call 94; refine (maxW_is M m x _ hx).mono ?_; rintro e w8 ⟨rfl, hb8⟩; have HB8 := Lib.hid (HB9.out.trans (hb8.mono HB9.out.size)); have HU8 := Lib.hid (HU9.out.next hb8)) | fail)
          go_roundw
          case rel => exact ⟨j + 1, by omega, by rw [← HX.out], by go_num, HU8, HB8⟩
          case measure => simp [intOf]; omega
        · obtain rfl : j = L'.length := by omega
          rw [List.take_length]
          go_wp2
          go_roundw
          case rel => exact ⟨i + 1, by omega, by rw [← HT.out], by go_num, HB2⟩
          case measure => simp [intOf]; omega
    · obtain rfl : i = L.length := by omega
      rw [List.take_length]
      go_wp2
      go_ret
      exact ⟨by rw [← HZ.out]; rfl, HB.out⟩
set_option maxRecDepth 100000 in
set_option maxHeartbeats 4000000 in
theorem featuresMeet_is (a0 : Addr) (a k r : Int) (s : ByteArray) (A : Option Addr) (c : Nat) (ps : List (Int × Int)) (a' k' r' : Int) (s' : ByteArray) (A' : Option Addr) (c' : Nat) (ps' : List (Int × Int)) (z : Int) (w : World) (hE : ErrAt a0 w)
    (hs : SeesE 2 encPoint w w.heap.size A ps) (hl : ps.length ≤ 274877906944) (hlc : ps.length ≤ c) (hc : (c : Int) ≤ 9223372036854775807) (hm : s.size ≤ maxLen)
    (hs' : SeesE 2 encPoint w w.heap.size A' ps') (hl' : ps'.length ≤ 274877906944) (hlc' : ps'.length ≤ c') (hc' : (c' : Int) ≤ 9223372036854775807) (hm' : s'.size ≤ maxLen) (hz : meetF (a, k, r, s, ps) (a', k', r', s', ps') = z) :
    Calls Tryz.prog 19 #[FtV a k r s A ps.length c, FtV a' k' r' s' A' ps'.length c'] w fun e w' => e = .returned (.int .i64 z) ∧ Below w.heap.size w w' := by
  have HV := Lib.hid ((Vars.of2 w (FtC a k r s A ps.length c) (FtC a' k' r' s' A' ps'.length c') 41 41).drew)
  have HQ : Hid (∀ W, Vars w W [FtC a k r s A ps.length c, FtC a' k' r' s' A' ps'.length c'] → (W.cell? ⟨w.heap.size, 0, none⟩ = some (.int .i64 a) ∧ W.cell? ⟨w.heap.size, 1, none⟩ = some (.int .i64 k) ∧ W.cell? ⟨w.heap.size, 2, none⟩ = some (.int .i64 r) ∧ W.cell? ⟨w.heap.size, 3, none⟩ = some (.string s) ∧ W.cell? ⟨w.heap.size, 4, none⟩ = some (.slice A ps.length c)) ∧
      (W.cell? ⟨w.heap.size + 1, 0, none⟩ = some (.int .i64 a') ∧ W.cell? ⟨w.heap.size + 1, 1, none⟩ = some (.int .i64 k') ∧ W.cell? ⟨w.heap.size + 1, 2, none⟩ = some (.int .i64 r') ∧ W.cell? ⟨w.heap.size + 1, 3, none⟩ = some (.string s') ∧ W.cell? ⟨w.heap.size + 1, 4, none⟩ = some (.slice A' ps'.length c'))) := Lib.hid fun W hW => ⟨hW.c50, hW.cell _ 1 0 rfl rfl rfl, hW.cell _ 1 1 rfl rfl rfl, hW.cell _ 1 2 rfl rfl rfl, hW.cell _ 1 3 rfl rfl rfl, hW.cell _ 1 4 rfl rfl rfl⟩
  have HS := Lib.hid ((hs.below HV.out.1).mono HV.out.1.size)
  have HS' := Lib.hid ((hs'.below HV.out.1).mono HV.out.1.size)
  have HE := Lib.hid (hE.all HV.out.1)
  have HZ := Lib.hid hz
  have HQ0 := Lib.hid (HQ.out _ (Vars.of2 w (FtC a k r s A ps.length c) (FtC a' k' r' s' A' ps'.length c') 41 41))
  have HQd := Lib.hid (HQ.out _ HV.out)
  clear hs hs' hE hz
  go_enter Tryz.func19, Tryz.ntmps19
  go_upto_region 1 with fail
  go_region_held3 (fun w' => (w'.cell? ⟨w.heap.size, 0, none⟩ = some (.int .i64 a) ∧ w'.cell? ⟨w.heap.size, 1, none⟩ = some (.int .i64 k) ∧ w'.cell? ⟨w.heap.size, 2, none⟩ = some (.int .i64 r) ∧ w'.cell? ⟨w.heap.size, 3, none⟩ = some (.string s) ∧ w'.cell? ⟨w.heap.size, 4, none⟩ = some (.slice A ps.length c)) ∧
      (w'.cell? ⟨w.heap.size + 1, 0, none⟩ = some (.int .i64 a') ∧ w'.cell? ⟨w.heap.size + 1, 1, none⟩ = some (.int .i64 k') ∧ w'.cell? ⟨w.heap.size + 1, 2, none⟩ = some (.int .i64 r') ∧ w'.cell? ⟨w.heap.size + 1, 3, none⟩ = some (.string s') ∧ w'.cell? ⟨w.heap.size + 1, 4, none⟩ = some (.slice A' ps'.length c')))
    (first | with_reducible exact HQ0.out | with_reducible exact HQd.out | with_reducible exact hQ1.out | with_reducible exact hQ2.out | with_reducible exact hQ3.out) (first
    | (go_at_call 56; (with_reducible refine (greatest_is A1 A2 c1 c2 L1 L2 z _ (HO1.out.sees elSegment) (HO2.out.sees elSegment) H1 H2 HZ2.out).mono ?_); rintro e w3 ⟨rfl, hb3⟩; have HV3 := Lib.hid (HV2.out.next hb3); have hQ3 := Lib.hid (HQ.out _ HV3.out))
    | (go_at_call 28; (with_reducible refine (partsOf_any a0 a' k' r' s' A' c' ps' _ HE1.out HS1.out hl' hlc' hc' hm').mono ?_); rintro e w2 ⟨A2, c2, L2, hL2, rfl, ho2, hb2⟩; have HV2 := Lib.hid (HV1.out.next hb2); have HO1 := Lib.hid (HO1.out.belowAll hb2); have HO2 := Lib.hid ho2; have hQ2 := Lib.hid (HQ.out _ HV2.out); have H2 : L2.length ≤ 1000 := (by rw [hL2.out]; exact Nat.le_trans (parts_len _) (by decide)); have HZ2 : Hid (mtV L1 L2 = z) := Lib.hid (by rw [hL1.out, hL2.out]; exact HZ.out))
    | (go_at_call 28; (with_reducible refine (partsOf_any a0 a k r s A c ps _ HE.out HS.out hl hlc hc hm).mono ?_); rintro e w1 ⟨A1, c1, L1, hL1, rfl, ho1, hb1⟩; have HV1 := Lib.hid (HV.out.next hb1); have HS1 := Lib.hid (HS'.out.belowAll hb1); have HE1 := Lib.hid (HE.out.all hb1); have HO1 := Lib.hid ho1; have hQ1 := Lib.hid (HQ.out _ HV1.out); have H1 : L1.length ≤ 1000 := (by rw [hL1.out]; exact Nat.le_trans (parts_len _) (by decide)))
    | fail)
  all_goals
    go_wp2
    go_ret
    exact ⟨rfl, HV3.out.1⟩
end Go.Proofs.YtbnjaaegbmhopaaGreatDoor
end
section
/- Rings in the model: RingSegments and TwiceArea. -/
namespace Go.Proofs.YtbnjaaegbmhopaaGreatDoor
open Go.ChangeShapes Go.WideShapes Go.ChangeAt Go.RowKit
set_option linter.unusedVariables false

set_option maxRecDepth 100000 in
set_option maxHeartbeats 1000000 in
theorem sRingSegments_any (A : Option Addr) (c : Nat) (l : List (Int × Int)) (w : World) (hs : SeesE 2 encPoint w w.heap.size A l) (hl : l.length ≤ 274877906944) :
    Calls Tryz.prog 64 #[.slice A l.length c] w (GivesE 4 encSegment 78 (rsV l) w) := by
  have HS := Lib.hid hs
  clear hs
  go_enter Tryz.func64, Tryz.ntmps64
  cases hz : isRg l
  · have HV : Hid (rsV l = []) := Lib.hid (by unfold rsV; rw [hz]; rfl)
    go_wp2_with (go_at_call 105; refine (sIsRing_is A c l _ HS.out hl _ hz).mono ?_; rintro e w1 ⟨rfl, hb1⟩)
    go_ret
    exact ⟨_, _, [], Lib.hid HV.out.symm, rfl, (OwnE.lit w1 w1.heap.size 78 (Nat.le_refl _)).mono hb1.size, hb1.alloc hb1.size _⟩
  · have HV : Hid (rsV l = rgS l) := Lib.hid (by unfold rsV; rw [hz]; rfl)
    go_wp2_with (first
      | (go_at_call 105; refine (sIsRing_is A c l _ HS.out hl _ hz).mono ?_; rintro e w1 ⟨rfl, hb1⟩; have HS1 := Lib.hid (HS.out.belowAll hb1); have HB1 := Lib.hid hb1)
      | (go_at_call 107; refine (l7Segments_any A c l _ HS1.out hl).mono ?_; rintro e w2 ⟨A1, c1, L, hL, rfl, ho2, hb2⟩))
    go_ret
    exact ⟨A1, c1, L, Lib.hid (by rw [hL.out, HV.out]), rfl, ho2.mono HB1.out.size, HB1.out.trans (hb2.mono HB1.out.size)⟩
end Go.Proofs.YtbnjaaegbmhopaaGreatDoor
end
section
/- PartsOf and FeaturesMeet of the model. -/
namespace Go.Proofs.YtbnjaaegbmhopaaGreatDoor
open Go.ChangeShapes Go.WideShapes Go.ChangeAt Go.RowKit
set_option linter.unusedVariables false

theorem smaxW_is (a b z : Int) (w : World) (hz : extV true a b = z) :
    Calls Tryz.prog 112 #[.int .i64 a, .int .i64 b] w fun e w' => e = .returned (.int .i64 z) ∧ Below w.heap.size w w' := by
  subst hz
  exact (smax_any a b w).mono fun e w' h => ⟨h.1, by rw [← h.2]; exact Below.refl _ _⟩
theorem mxS_stS {n : Int} {s : Sg} {T : List Sg} {j : Nat} {x : Sg} (hx : T[j]? = some x) : extV true (mxS n s (T.take j)) (howS s x) = mxS n s (T.take (j + 1)) := by
  rw [List.take_add_one, hx]; exact (mxS_snoc _ _ _ _).symm
theorem mtV_stS {S T : List Sg} {i : Nat} {u : Sg} (hu : S[i]? = some u) : mxS (mtV (S.take i) T) u T = mtV (S.take (i + 1)) T := by
  rw [List.take_add_one, hu]; exact (mtV_snoc _ _ _).symm
set_option maxRecDepth 100000 in
set_option maxHeartbeats 1000000 in
theorem sPartsOf_any (a k r : Int) (s : ByteArray) (A : Option Addr) (c : Nat) (ps : List (Int × Int)) (w : World) (hs : SeesE 2 encPoint w w.heap.size A ps) (hl : ps.length ≤ 274877906944) (hm : s.size ≤ maxLen) :
    Calls Tryz.prog 26 #[FtV a k r s A ps.length c] w (GivesE 4 encSegment 78 (partsV (a, k, r, s, ps)) w) := by
  have HV := Lib.hid (Vars.of1 w (FtC a k r s A ps.length c) 41)
  have HS := Lib.hid ((hs.below HV.out.1).mono HV.out.1.size)
  clear hs
  go_enter Tryz.func26, Tryz.ntmps26
  cases hq : featV (a, k, r, s, ps)
  · have HP := Lib.hid (parts_no hq)
    go_wp2_with fail
    refine (sIsFeature_is a k r s A c ps _ _ HS.out hl hm hq).mono ?_
    rintro e w1 ⟨rfl, hb1⟩
    have HV := Lib.hid (HV.out.next hb1)
    clear hb1
    go_wp2
    go_ret
    exact ⟨_, _, [], Lib.hid HP.out.symm, rfl, (OwnE.lit w1 w1.heap.size 78 (Nat.le_refl _)).mono HV.out.1.size, HV.out.1.alloc HV.out.1.size _⟩
  · by_cases e2 : k = 2
    · subst e2
      have HP := Lib.hid (parts_2 hq)
      go_wp2_with fail
      refine (sIsFeature_is a 2 r s A c ps _ _ HS.out hl hm hq).mono ?_
      rintro e w1 ⟨rfl, hb1⟩
      have HS1 := Lib.hid (HS.out.belowAll hb1)
      have HV := Lib.hid (HV.out.next hb1)
      clear hb1
      obtain ⟨k0, k1, k2, k3, k4⟩ := HV.out.c50
      go_wp2_with fail
      refine (sSegmentsOf_any A c ps _ HS1.out (by omega)).mono ?_
      rintro e w2 ⟨A2, c2, L, hL, rfl, ho2, hb2⟩
      have HO := Lib.hid (ho2.mono HV.out.1.size)
      have HV := Lib.hid (HV.out.next hb2)
      clear ho2 hb2
      go_wp2
      go_ret
      exact ⟨A2, c2, L, Lib.hid (by rw [hL.out, HP.out]), rfl, HO.out, HV.out.1⟩
    by_cases e3 : k = 3
    · subst e3
      have HP := Lib.hid (parts_3 hq)
      go_wp2_with fail
      refine (sIsFeature_is a 3 r s A c ps _ _ HS.out hl hm hq).mono ?_
      rintro e w1 ⟨rfl, hb1⟩
      have HS1 := Lib.hid (HS.out.belowAll hb1)
      have HV := Lib.hid (HV.out.next hb1)
      clear hb1
      obtain ⟨k0, k1, k2, k3, k4⟩ := HV.out.c50
      go_wp2_with fail
      refine (sRingSegments_any A c ps _ HS1.out hl).mono ?_
      rintro e w2 ⟨A2, c2, L, hL, rfl, ho2, hb2⟩
      have HO := Lib.hid (ho2.mono HV.out.1.size)
      have HV := Lib.hid (HV.out.next hb2)
      clear ho2 hb2
      go_wp2
      go_ret
      exact ⟨A2, c2, L, Lib.hid (by rw [hL.out, HP.out]), rfl, HO.out, HV.out.1⟩
    have HP := Lib.hid (parts_0 (a := a) (r := r) (s := s) (ps := ps) e2 e3)
    go_wp2_with fail
    refine (sIsFeature_is a k r s A c ps _ _ HS.out hl hm hq).mono ?_
    rintro e w1 ⟨rfl, hb1⟩
    have HV := Lib.hid (HV.out.next hb1)
    clear hb1
    obtain ⟨k0, k1, k2, k3, k4⟩ := HV.out.c50
    go_wp2
    go_ret
    exact ⟨_, _, [], Lib.hid HP.out.symm, rfl, (OwnE.lit w1 w1.heap.size 78 (Nat.le_refl _)).mono HV.out.1.size, HV.out.1.alloc HV.out.1.size _⟩
set_option maxRecDepth 100000 in
set_option maxHeartbeats 8000000 in
theorem sFeaturesMeet_is (a k r : Int) (s : ByteArray) (A : Option Addr) (c : Nat) (ps : List (Int × Int)) (a' k' r' : Int) (s' : ByteArray) (A' : Option Addr) (c' : Nat) (ps' : List (Int × Int)) (z : Int) (w : World)
    (hs : SeesE 2 encPoint w w.heap.size A ps) (hl : ps.length ≤ 274877906944) (hm : s.size ≤ maxLen)
    (hs' : SeesE 2 encPoint w w.heap.size A' ps') (hl' : ps'.length ≤ 274877906944) (hm' : s'.size ≤ maxLen) (hz : meetF (a, k, r, s, ps) (a', k', r', s', ps') = z) :
    Calls Tryz.prog 71 #[FtV a k r s A ps.length c, FtV a' k' r' s' A' ps'.length c'] w fun e w' => e = .returned (.int .i64 z) ∧ Below w.heap.size w w' := by
  have HV := Lib.hid (Vars.of2 w (FtC a k r s A ps.length c) (FtC a' k' r' s' A' ps'.length c') 41 41)
  have HS := Lib.hid ((hs.below HV.out.1).mono HV.out.1.size); have HS' := Lib.hid ((hs'.below HV.out.1).mono HV.out.1.size)
  have HZ0 := Lib.hid hz
  clear hs hs' hz
  go_enter Tryz.func71, Tryz.ntmps71
  go_wp2_with fail
  refine (sPartsOf_any a k r s A c ps _ HS.out hl hm).mono ?_
  rintro e w1 ⟨A1, c1, L, hL, rfl, ho1, hb1⟩
  have HO1 := Lib.hid ho1; have HV1 := Lib.hid (HV.out.next hb1)
  have HS1 := Lib.hid (HS'.out.belowAll hb1)
  obtain ⟨k0, k1, k2, k3, k4⟩ : _ ∧ _ ∧ _ ∧ _ ∧ _ := ⟨HV1.out.cell (w.heap.size + 1) 1 0 rfl rfl rfl, HV1.out.cell (w.heap.size + 1) 1 1 rfl rfl rfl, HV1.out.cell (w.heap.size + 1) 1 2 rfl rfl rfl, HV1.out.cell (w.heap.size + 1) 1 3 rfl rfl rfl, HV1.out.cell (w.heap.size + 1) 1 4 rfl rfl rfl⟩
  clear ho1 hb1
  go_wp2_with fail
  refine (sPartsOf_any a' k' r' s' A' c' ps' _ HS1.out hl' hm').mono ?_
  rintro e w2 ⟨A2, c2, L2, hL2, rfl, ho2, hb2⟩
  have HO2 := Lib.hid ((HO1.out.belowAll hb2).mono HV.out.1.size); have HB2 := Lib.hid (HV1.out.next hb2).1; have HP2 := Lib.hid (ho2.mono HV1.out.1.size)
  clear ho2 hb2 HO1 k0 k1 k2 k3 k4
  have HZ : Hid (mtV L L2 = z) := Lib.hid (by rw [hL.out, hL2.out]; exact HZ0.out)
  have h9 : L.length ≤ 10 := by rw [hL.out]; exact parts_len _
  have h9' : L2.length ≤ 10 := by rw [hL2.out]; exact parts_len _
  clear HZ0 hL hL2
  go_wp2
  go_loopw [5, 8] (fun n i wr => ∃ j : Nat, j ≤ L.length ∧ n = .int .i64 (mtV (L.take j) L2) ∧ i = .int .i64 j ∧ Hid (OwnE 4 encSegment wr w.heap.size 78 (.slice A1 L.length c1) L) ∧ Hid (OwnE 4 encSegment wr w.heap.size 78 (.slice A2 L2.length c2) L2) ∧ Hid (Below w.heap.size w wr)) (fun _ i _ => L.length - (intOf i).toNat)
  case atStart => exact ⟨0, Nat.zero_le _, rfl, rfl, HO2, HP2, HB2⟩
  case round =>
    obtain ⟨i, hi, rfl, rfl, HO, HP, HB⟩ := hrel
    clear HO2 HP2 HB2
    by_cases hlt : i < L.length
    · have hli : (i : Int) < (L.length : Int) := by omega
      obtain ⟨u, hu⟩ : ∃ u, L[i]? = some u := ⟨_, List.getElem?_eq_getElem hlt⟩
      obtain ⟨N, hN⟩ : ∃ N, mtV (L.take i) L2 = N := ⟨_, rfl⟩
      have HT : Hid (mxS N u L2 = mtV (L.take (i + 1)) L2) := Lib.hid (by rw [← hN]; exact mtV_stS hu)
      have HU := Lib.hid hu
      rw [hN]
      clear hu hN
      go_wp2
      go_loopw [5, 9] (fun n k wx => ∃ j : Nat, j ≤ L2.length ∧ n = .int .i64 (mxS N u (L2.take j)) ∧ k = .int .i64 j ∧ Hid (OwnE 4 encSegment wx w.heap.size 78 (.slice A1 L.length c1) L) ∧ Hid (OwnE 4 encSegment wx w.heap.size 78 (.slice A2 L2.length c2) L2) ∧ Hid (Below w.heap.size w wx)) (fun _ k _ => L2.length - (intOf k).toNat)
      case atStart => exact ⟨0, Nat.zero_le _, rfl, rfl, HO, HP, HB⟩
      case round =>
        obtain ⟨j, hj, rfl, rfl, HO, HP, HB⟩ := hrel
        by_cases hlj : j < L2.length
        · have hlj' : (j : Int) < (L2.length : Int) := by omega
          obtain ⟨b, off, -, rfl, hbl, -, -⟩ := (HO.out.sees elSegment).lt hlt
          obtain ⟨b', off', v, rfl, hbl', hv, -⟩ := (HP.out.sees elSegment).lt hlj
          obtain ⟨k0, k1, k2, k3⟩ := cells4 (HO.out.sees elSegment) HU.out
          obtain ⟨k4, k5, k6, k7⟩ := cells4 (HP.out.sees elSegment) hv
          have HV := Lib.hid hv
          obtain ⟨M, hM⟩ : ∃ M, mxS N u (L2.take j) = M := ⟨_, rfl⟩
          obtain ⟨m, hm⟩ : ∃ m, howS u v = m := ⟨_, rfl⟩
          have HX : Hid (extV true M m = mxS N u (L2.take (j + 1))) := Lib.hid (by rw [← hM, ← hm]; exact mxS_stS hv)
          rw [hM]
          clear hv hM
          obtain ⟨x, hx⟩ : ∃ x, extV true M m = x := ⟨_, rfl⟩
          rw [hx] at HX
          go_wp2
          go_region_held3 (fun w' => (w'.cell? ⟨b, off + i * 4, none⟩ = some (.int .i64 u.1) ∧ w'.cell? ⟨b, off + i * 4 + 1, none⟩ = some (.int .i64 u.2.1) ∧ w'.cell? ⟨b, off + i * 4 + 2, none⟩ = some (.int .i64 u.2.2.1) ∧ w'.cell? ⟨b, off + i * 4 + 3, none⟩ = some (.int .i64 u.2.2.2)) ∧ (w'.cell? ⟨b', off' + j * 4, none⟩ = some (.int .i64 v.1) ∧ w'.cell? ⟨b', off' + j * 4 + 1, none⟩ = some (.int .i64 v.2.1) ∧ w'.cell? ⟨b', off' + j * 4 + 2, none⟩ = some (.int .i64 v.2.2.1) ∧ w'.cell? ⟨b', off' + j * 4 + 3, none⟩ = some (.int .i64 v.2.2.2))) (first | exact ⟨⟨k0, k1, k2, k3⟩, ⟨k4, k5, k6, k7⟩⟩ | exact hQ | exact hQ2) (first
            | (go_at_call 113; refine (sHowS_is u v _ _ hm).mono ?_; rintro e w9 ⟨rfl, hb9⟩; have HB9 := Lib.hid (HB.out.drew.trans (hb9.mono HB.out.size)); have HO9 := Lib.hid ((HO.out.drew).belowAll hb9); have HP9 := Lib.hid ((HP.out.drew).belowAll hb9); have hQ := And.intro (cells4 (HO9.out.sees elSegment) HU.out) (cells4 (HP9.out.sees elSegment) HV.out))
            | (go_at_call 112; refine (smaxW_is M m x _ hx).mono ?_; rintro e w8 ⟨rfl, hb8⟩; have HB8 := Lib.hid (HB9.out.trans (hb8.mono HB9.out.size)); have HO8 := Lib.hid (HO9.out.belowAll hb8); have HP8 := Lib.hid (HP9.out.belowAll hb8); have hQ2 := And.intro (cells4 (HO8.out.sees elSegment) HU.out) (cells4 (HP8.out.sees elSegment) HV.out)) | fail)
          all_goals
            go_wp2
            go_roundw
            case rel => exact ⟨j + 1, by omega, by rw [← HX.out], by go_num, HO8, HP8, HB8⟩
            case measure => simp [intOf]; omega
        · obtain rfl : j = L2.length := by omega
          rw [List.take_length]
          go_wp2
          go_roundw
          case rel => exact ⟨i + 1, by omega, by rw [← HT.out], by go_num, HO, HP, HB⟩
          case measure => simp [intOf]; omega
    · obtain rfl : i = L.length := by omega
      rw [List.take_length]
      go_wp2
      go_ret
      exact ⟨by rw [← HZ.out]; rfl, HB.out⟩
end Go.Proofs.YtbnjaaegbmhopaaGreatDoor
end
section
/- What the statements list of errNoRing, as the walks read it. -/
namespace Go.Proofs.YtbnjaaegbmhopaaGreatDoor
open Go.ChangeShapes Go.WideShapes Go.ChangeAt Go.RowKit Go.Stop
set_option linter.unusedVariables false
set_option maxRecDepth 100000

theorem errName : Tryz.prog.globalNamed "loop.example/g03005/impl.errNoRing" = some 0 := by kernel_rfl
theorem errType : (Tryz.prog.globals[0]?).map (·.type) = some 73 := by kernel_rfl
theorem errStar : "*" ++ "errors.errorString" = "*errors.errorString" := by decide
theorem errRow (u : TypeId) (h : Tryz.prog.typeName? 3 u = some "*errors.errorString") : u = 221 :=
  typeName_ptr_named (nm := "errors.errorString") (by rw [errStar]; kernel_rfl) (by kernel_rfl) (by decide) u (by rw [errStar]; exact h)
theorem errCells : Tryz.prog.cellsOf 246 = 1 := by kernel_rfl
theorem strCells : Tryz.prog.cellsOf 9 = 1 := by kernel_rfl
theorem errAt_of {w : World} (hL : laidMet Tryz.prog [("loop.example/g03005/impl.errNoRing", Rows.laid_loop_example_g03005_impl_errNoRing)] w) : ∃ a0, ErrAt a0 w := by
  obtain ⟨a, s, hv, -, -, -⟩ := laid_sentinel (tp := 221) (te := 246) (ts := 9) hL errName errType Tryz.underlying73 errRow Tryz.underlying221 Tryz.underlying246 rfl rfl Tryz.underlying9 errCells strCells
  exact ⟨a, by have := World.var?_cell errName hv 0; simpa [ErrAt] using this⟩
theorem errVar_of {w : World} (hL : laidMet Tryz.prog [("loop.example/g03005/impl.errNoRing", Rows.laid_loop_example_g03005_impl_errNoRing)] w) : ∃ a0, w.var? Tryz.prog "loop.example/g03005/impl.errNoRing" = some #[.iface 221 (.pointer (some a0))] := by
  obtain ⟨a, s, hv, -, -, -⟩ := laid_sentinel (tp := 221) (te := 246) (ts := 9) hL errName errType Tryz.underlying73 errRow Tryz.underlying221 Tryz.underlying246 rfl rfl Tryz.underlying9 errCells strCells
  exact ⟨a, hv⟩
theorem errVars {H : Type} (enc : TypeId × Value → H) {W : World} {a0 : Addr} (h : W.var? Tryz.prog "loop.example/g03005/impl.errNoRing" = some #[.iface 221 (.pointer (some a0))]) (sp : Nat → Bool) :
    DataW.TrodVars enc Tryz.prog W sp ["loop.example/g03005/impl.errNoRing"] [tok enc (.iface 221 (.pointer (some a0)))] [.cell 0 0] :=
  vars_read1 enc errName errType Tryz.underlying73 h trivial sp
theorem errVar_below {W W' : World} {a0 : Addr} (h : W.var? Tryz.prog "loop.example/g03005/impl.errNoRing" = some #[.iface 221 (.pointer (some a0))]) (hb : Below W.heap.size W W') : W'.var? Tryz.prog "loop.example/g03005/impl.errNoRing" = some #[.iface 221 (.pointer (some a0))] :=
  var?_below hb errName (World.block_lt_of_cell? _ _ (World.var?_cell errName h 0)) h
end Go.Proofs.YtbnjaaegbmhopaaGreatDoor
end
section
/- Features in memory: a slice of features that the call owns, with the rows of their points. -/
namespace Go.Proofs.YtbnjaaegbmhopaaGreatDoor
open Go.ChangeShapes Go.WideShapes Go.ChangeAt Go.RowKit
set_option linter.unusedVariables false

/-- The slice of a feature's points. -/
def slF (x : FCel) : Value := .slice x.2.2.2.2.1 x.2.2.2.2.2.1 x.2.2.2.2.2.2
def Shal (x : FCel) (f : Feat) : Prop := x.1 = f.1 ∧ x.2.1 = f.2.1 ∧ x.2.2.1 = f.2.2.1 ∧ x.2.2.2.1 = f.2.2.2.1
/-- No two rows of points in one block. -/
def ApartF (xs : List FCel) : Prop := ∀ (i j : Nat) x y b, i ≠ j → xs[i]? = some x → xs[j]? = some y → (slF x).ownBlock = some b → (slF y).ownBlock ≠ some b
/-- The rows of points of features that lie in v. -/
def RowsF (w : World) (B : Nat) (v : Value) (xs : List FCel) (l : List Feat) : Prop :=
  xs.length = l.length ∧ ApartF xs ∧ ∀ (j : Nat) x f, xs[j]? = some x → l[j]? = some f → Shal x f ∧ OwnE 2 encPoint w B 33 (slF x) f.2.2.2.2 ∧ ∀ b, (slF x).ownBlock = some b → v.ownBlock ≠ some b
/-- The call owns a slice of features, from block B on. -/
def OwnF (w : World) (B : Nat) (v : Value) (l : List Feat) : Prop := ∃ xs, OwnE 5 encF w B 41 v xs ∧ RowsF w B v xs l
section
variable {w w' w0 : World} {B C : Nat} {v v' : Value} {A : Option Addr} {m c : Nat} {xs ys : List FCel} {l l2 : List Feat} {x : FCel} {f : Feat}
theorem RowsF.len (h : RowsF w B v xs l) : xs.length = l.length := h.1
theorem OwnF.form (h : OwnF w B v l) : ∃ A c, v = .slice A l.length c ∧ c ≤ maxLen ∧ l.length ≤ c := by
  obtain ⟨xs, h1, h2⟩ := h
  obtain ⟨A, c, hv, hc, hl⟩ := h1.form
  rw [h2.1] at hv hl
  exact ⟨A, c, hv, hc, hl⟩
theorem OwnF.lt (h : OwnF w B v l) : ∀ g, v.ownBlock = some g → B ≤ g ∧ g < w.heap.size := by
  obtain ⟨xs, h1, _⟩ := h; exact h1.lt
theorem own_caps {α : Type} {n : Nat} {enc : α → List Value} {e : TypeId} {L : List α} (h : OwnE n enc w B e (.slice A m c) L) : m = L.length ∧ L.length ≤ c ∧ (c : Int) ≤ 9223372036854775807 := by
  obtain ⟨A', c', hv, hc, hl⟩ := h.form
  simp only [Value.slice.injEq] at hv
  unfold maxLen at hc
  omega
theorem own_capsF (h : OwnF w B (.slice A m c) l) : l.length ≤ c ∧ (c : Int) ≤ 9223372036854775807 := by
  obtain ⟨xs, h1, h2⟩ := h
  have := own_caps h1
  rw [← h2.1]
  exact this.2
theorem OwnF.sees (h : OwnF w B (.slice A m c) l) : SeesF w w.heap.size A l := by
  obtain ⟨xs, h1, h2, h3, h4⟩ := h
  refine ⟨xs, h2, h1.sees elF, fun j x f hx hf => ?_⟩
  obtain ⟨⟨e1, e2, e3, e4⟩, ho, _⟩ := h4 j x f hx hf
  have hc := own_caps ho
  exact ⟨e1, e2, e3, e4, hc.1, ho.sees elPoint, hc.2⟩
theorem RowsF.belowAll (h : RowsF w B v xs l) (hb : Below w.heap.size w w') : RowsF w' B v xs l :=
  ⟨h.1, h.2.1, fun j x f hx hf => by obtain ⟨h1, h2, h3⟩ := h.2.2 j x f hx hf; exact ⟨h1, h2.belowAll hb, h3⟩⟩
theorem OwnF.belowAll (h : OwnF w B v l) (hb : Below w.heap.size w w') : OwnF w' B v l := by
  obtain ⟨xs, h1, h2⟩ := h
  exact ⟨xs, h1.belowAll hb, h2.belowAll hb⟩
theorem OwnF.alloc (h : OwnF w B v l) (o : Obj) : OwnF (w.alloc o) B v l := h.belowAll ((Below.refl _ _).alloc (Nat.le_refl _) o)
theorem OwnF.drew (h : OwnF w B v l) : OwnF w.drew B v l := h.belowAll (Below.refl _ _).drew
theorem RowsF.mono (h : RowsF w B v xs l) (hC : C ≤ B) : RowsF w C v xs l :=
  ⟨h.1, h.2.1, fun j x f hx hf => by obtain ⟨h1, h2, h3⟩ := h.2.2 j x f hx hf; exact ⟨h1, h2.mono hC, h3⟩⟩
theorem OwnF.mono (h : OwnF w B v l) (hC : C ≤ B) : OwnF w C v l := by
  obtain ⟨xs, h1, h2⟩ := h
  exact ⟨xs, h1.mono hC, h2.mono hC⟩
theorem OwnF.lit (w : World) (B : Nat) (hB : B ≤ w.heap.size) : OwnF (w.alloc (.cells #[] 41)) B (.slice (some ⟨w.heap.size, 0, none⟩) 0 0) [] :=
  ⟨[], OwnE.lit w B _ hB, rfl, fun i j x y b _ hx => by simp at hx, fun j x f hx => by simp at hx⟩
/-- The rows behind the row of the slice: it grows, and they stay. -/
theorem RowsF.grown (h : RowsF w B v xs l) (hg : w.grownBy w' v.ownBlock) (hv : v'.ownBlock = v.ownBlock ∨ v'.ownBlock = some w.heap.size) : RowsF w' B v' xs l := by
  refine ⟨h.1, h.2.1, fun j x f hx hf => ?_⟩
  obtain ⟨h1, h2, h3⟩ := h.2.2 j x f hx hf
  refine ⟨h1, h2.kept hg ?_, fun b hb he => ?_⟩
  · match hs : (slF x).ownBlock with
    | none => exact .inl rfl
    | some b => exact .inr fun e => h3 b hs e.symm
  · rcases hv with hv | hv
    · rw [hv] at he; exact h3 b hb he
    · rw [hv] at he
      have := (h2.lt b hb).2
      simp only [Option.some.injEq] at he
      omega
/-- Two lists of features side by side: the second one's rows lie behind the first one's. -/
theorem RowsF.app (h : RowsF w B v xs l) (h2 : RowsF w B v ys l2) (hs : ∀ (i j : Nat) x y b, xs[i]? = some x → ys[j]? = some y → (slF x).ownBlock = some b → (slF y).ownBlock ≠ some b) : RowsF w B v (xs ++ ys) (l ++ l2) := by
  refine ⟨by rw [List.length_append, List.length_append, h.1, h2.1], fun i j x y b hij hx hy hb => ?_, fun j x f hx hf => ?_⟩
  · rw [List.getElem?_append] at hx hy
    split at hx
    · split at hy
      · exact h.2.1 i j x y b hij hx hy hb
      · exact hs _ _ x y b hx hy hb
    · split at hy
      · intro e
        exact hs _ _ y x b hy hx e hb
      · exact h2.2.1 _ _ x y b (by omega) hx hy hb
  · rw [List.getElem?_append] at hx hf
    rw [h.1] at hx
    split at hx
    · next hlt => rw [if_pos hlt] at hf; exact h.2.2 _ _ _ hx hf
    · next hlt => rw [if_neg hlt] at hf; exact h2.2.2 _ _ _ hx hf
/-- One feature whose points lie in new memory. -/
theorem rows_one {f : Feat} (ho : OwnE 2 encPoint w B 33 (slF x) f.2.2.2.2) (hb : ∀ b, (slF x).ownBlock = some b → C ≤ b) (hv : ∀ g, v.ownBlock = some g → g < C) (hs : Shal x f) : RowsF w B v [x] [f] := by
  refine ⟨rfl, fun i j x y b hij hx hy => ?_, fun j x' f' hx hf => ?_⟩
  · have h1 := (List.getElem?_eq_some_iff.1 hx).1
    have h2 := (List.getElem?_eq_some_iff.1 hy).1
    simp at h1 h2
    omega
  · match j, hx, hf with
    | 0, hx, hf =>
      simp at hx hf
      subst hx hf
      refine ⟨hs, ho, fun b h1 h2 => ?_⟩
      have := hb b h1
      have := hv b h2
      omega
    | j + 1, hx, hf => simp at hx
/-- What was ahead of C, and what lies behind it. -/
theorem rows_sep (h : RowsF w0 B v xs l) (hC : w0.heap.size ≤ C) (hy : ∀ (j : Nat) y b, ys[j]? = some y → (slF y).ownBlock = some b → C ≤ b) :
    ∀ (i j : Nat) x y b, xs[i]? = some x → ys[j]? = some y → (slF x).ownBlock = some b → (slF y).ownBlock ≠ some b := fun i j x y b hx hy' hb he => by
  obtain ⟨f, hf⟩ : ∃ f, l[i]? = some f := ⟨_, List.getElem?_eq_getElem (by rw [← h.1]; exact (List.getElem?_eq_some_iff.1 hx).1)⟩
  obtain ⟨_, h2, _⟩ := h.2.2 i x f hx hf
  have := (h2.lt b hb).2
  have := hy j y b hy' he
  omega
theorem infoFeature : (Tryz.prog.info? 41).map (fun i => (i.zero, i.size, i.bytes)) = some (some (.agg #[.int .i64 0, .int .i64 0, .int .i64 0, .string ⟨#[]⟩, .slice none 0 0]), 5, 64) := by kernel_rfl
/-- append onto the call's own features. -/
theorem run_appF (w : World) (ty : TypeId) (hown : OwnE 5 encF w B 41 v xs) (hr : RowsF w B v xs l) (C : Nat) (A : Option Addr) (m c : Nat) (hm : m = ys.length) (hs : SeesE 5 encF w C A ys) (hr2 : RowsF w B v ys l2)
    (hsep : ∀ (i j : Nat) x y b, xs[i]? = some x → ys[j]? = some y → (slF x).ownBlock = some b → (slF y).ownBlock ≠ some b) (h63 : l.length + l2.length ≤ 1099511627776) (hbase : B ≤ w.heap.size) :
    ∃ v' w', (Builtin.append_ #[45, 45] ty #[v, .slice A m c]).run Tryz.prog w = .ok v' w' ∧ OwnF w' B v' (l ++ l2) ∧ Below B w w' := by
  obtain ⟨i, hi, hz, h1, h2⟩ := info_parts infoFeature
  obtain ⟨v', w', hrun, q1, q2, q3⟩ := run_appE (P := Tryz.prog) w elF 45 ty 41 i _ 64 Tryz.underlying45 hi hz h1 h2 rfl B v xs hown C A m c ys hm hs (by rw [hr.1, hr2.1]; exact h63) (by decide) hbase
  exact ⟨v', w', hrun, ⟨xs ++ ys, q1, (hr.app hr2 hsep).grown q2 q3⟩, (Below.refl _ _).grown q2 hbase fun g hg => (hown.lt g hg).1⟩
theorem wpList_appF {ops : Array Oper} {rest : List Oper} {o : Oper} {a : Act} {Q : Exit → Act → World → Prop} (w : World) (hgd : o.guard = none) (s x : Operand)
    (ho : o.op = .call { callee := .builtin .append, args := #[s, x], argTypes := #[45, 45] })
    (hv : a.eval s = v) (hown : OwnE 5 encF w B 41 v xs) (hr : RowsF w B v xs l) (C : Nat) (A : Option Addr) (m c : Nat) (hx : a.eval x = .slice A m c) (hm : m = ys.length) (hs : SeesE 5 encF w C A ys) (hr2 : RowsF w B v ys l2)
    (hsep : ∀ (i j : Nat) x y b, xs[i]? = some x → ys[j]? = some y → (slF x).ownBlock = some b → (slF y).ownBlock ≠ some b) (h63 : l.length + l2.length ≤ 1099511627776) (hbase : B ≤ w.heap.size)
    (h : ∀ A' c' L w', Hid (L = l ++ l2) → L.length ≤ l.length + l2.length → l.length + l2.length ≤ L.length → OwnF w' B (.slice A' L.length c') L → Below B w w' → wpList Tryz.prog ops Q rest (a.put o.dst (.slice A' L.length c')) w') :
    wpList Tryz.prog ops Q (o :: rest) a w := by
  refine wpList_plain hgd fun K hK => ?_
  obtain ⟨v', w', hrun, h2, h3⟩ := run_appF w o.type hown hr C A m c hm hs hr2 hsep h63 hbase
  unfold Oper.wp execOp
  simp only [ho, resolve, invoke, builtin, Sem.run_bind, Sem.run_pure, Result.andThen_ok, List.map_toArray, List.map_cons, List.map_nil, hv, hx, hrun]
  obtain ⟨A', c', rfl, _, _⟩ := h2.form
  exact hK _ _ (h A' c' _ w' (Lib.hid rfl) (by simp) (by simp) h2 h3)
/-- One feature, made anew behind world w0, is appended. -/
theorem wpList_appF1 {ops : Array Oper} {rest : List Oper} {o : Oper} {act : Act} {Q : Exit → Act → World → Prop} (w1 : World) (hgd : o.guard = none) (s x : Operand)
    (ho : o.op = .call { callee := .builtin .append, args := #[s, x], argTypes := #[45, 45] })
    (hv : act.eval s = v) (hF : OwnF w0 B v l) (hb : Below w0.heap.size w0 w1) {a k r : Int} {nm : ByteArray} {A1 : Option Addr} {c1 : Nat} {L : List (Int × Int)} (hP : OwnE 2 encPoint w1 w0.heap.size 33 (.slice A1 L.length c1) L)
    (hx : act.eval x = .slice (some ⟨w1.heap.size, 0, none⟩) 1 1) (h63 : l.length + 1 ≤ 1099511627776) (hbase : B ≤ w0.heap.size)
    (h : ∀ A' c' L' w', Hid (L' = l ++ [(a, k, r, nm, L)]) → L'.length ≤ l.length + 1 → l.length + 1 ≤ L'.length → OwnF w' B (.slice A' L'.length c') L' → Below B (w1.alloc (.cells (FtC a k r nm A1 L.length c1) 41)) w' → wpList Tryz.prog ops Q rest (act.put o.dst (.slice A' L'.length c')) w') :
    wpList Tryz.prog ops Q (o :: rest) act (w1.alloc (.cells (FtC a k r nm A1 L.length c1) 41)) := by
  have hF1 := (hF.belowAll hb).alloc (.cells (FtC a k r nm A1 L.length c1) 41)
  have hF0 := hF
  obtain ⟨xs, h1, h2⟩ := hF
  have h1' := (h1.belowAll hb).alloc (.cells (FtC a k r nm A1 L.length c1) 41)
  have h2' := (h2.belowAll hb).belowAll ((Below.refl _ _).alloc (Nat.le_refl _) (.cells (FtC a k r nm A1 L.length c1) 41))
  have hsz := hb.size
  refine wpList_appF (l := l) (l2 := [(a, k, r, nm, L)]) (xs := xs) (ys := [(a, k, r, nm, A1, L.length, c1)]) _ hgd s x ho hv h1' h2' (w1.heap.size + 1) _ 1 1 hx rfl
    (seesE_new elF w1 _ _ _ _ (Nat.lt_succ_self _) rfl)
    (rows_one (C := w0.heap.size) ((hP.mono hbase).alloc _) (fun b hb' => (hP.lt b hb').1) (fun g hg => (hF0.lt g hg).2) ⟨rfl, rfl, rfl, rfl⟩)
    (rows_sep h2 (Nat.le_refl _) (fun j y b hy hb' => ?_)) h63 (by simp; omega) h
  match j, hy with
  | 0, hy => simp at hy; subst hy; exact (hP.lt b hb').1
/-- Rows behind C are none of what lies ahead of it. -/
theorem RowsF.turn {u : Value} {l2 : List Feat} (h : RowsF w C u ys l2) (hv : ∀ g, v.ownBlock = some g → g < C) : RowsF w C v ys l2 :=
  ⟨h.1, h.2.1, fun j x f hx hf => by
    obtain ⟨h1, h2, _⟩ := h.2.2 j x f hx hf
    refine ⟨h1, h2, fun b hb he => ?_⟩
    have := (h2.lt b hb).1
    have := hv b he
    omega⟩
theorem step_appF {o : Oper} {act : Act} {K : Act → World → Prop} {Q : Exit → Act → World → Prop} {l2 : List Feat} (w : World) (s x : Operand)
    (ho : o.op = .call { callee := .builtin .append, args := #[s, x], argTypes := #[45, 45] })
    (hv : act.eval s = v) (hown : OwnE 5 encF w B 41 v xs) (hr : RowsF w B v xs l) (C : Nat) (A : Option Addr) (m c : Nat) (hx : act.eval x = .slice A m c) (hm : m = ys.length) (hs : SeesE 5 encF w C A ys) (hr2 : RowsF w B v ys l2)
    (hsep : ∀ (i j : Nat) x y b, xs[i]? = some x → ys[j]? = some y → (slF x).ownBlock = some b → (slF y).ownBlock ≠ some b) (h63 : l.length + l2.length ≤ 1099511627776) (hbase : B ≤ w.heap.size)
    (h : ∀ A' c' L w', Hid (L = l ++ l2) → L.length ≤ l.length + l2.length → l.length + l2.length ≤ L.length → OwnF w' B (.slice A' L.length c') L → Below B w w' → K (act.put o.dst (.slice A' L.length c')) w') :
    o.wp Tryz.prog act w K Q := by
  obtain ⟨v', w', hrun, h2, h3⟩ := run_appF w o.type hown hr C A m c hm hs hr2 hsep h63 hbase
  unfold Oper.wp execOp
  simp only [ho, resolve, invoke, builtin, Sem.run_bind, Sem.run_pure, Result.andThen_ok, List.map_toArray, List.map_cons, List.map_nil, hv, hx, hrun]
  obtain ⟨A', c', rfl, _, _⟩ := h2.form
  exact h A' c' _ w' (Lib.hid rfl) (by simp) (by simp) h2 h3
/-- One feature, made anew behind world w0, is appended: a step. -/
theorem stepF1 {o : Oper} {act : Act} {K : Act → World → Prop} {Q : Exit → Act → World → Prop} (w1 : World) (s x : Operand)
    (ho : o.op = .call { callee := .builtin .append, args := #[s, x], argTypes := #[45, 45] })
    (hv : act.eval s = v) (hF : OwnF w0 B v l) (hb : Below w0.heap.size w0 w1) {a k r : Int} {nm : ByteArray} {A1 : Option Addr} {c1 : Nat} {L : List (Int × Int)} (hP : OwnE 2 encPoint w1 w0.heap.size 33 (.slice A1 L.length c1) L)
    (hx : act.eval x = .slice (some ⟨w1.heap.size, 0, none⟩) 1 1) (h63 : l.length + 1 ≤ 1099511627776) (hbase : B ≤ w0.heap.size)
    (h : ∀ A' c' L' w', Hid (L' = l ++ [(a, k, r, nm, L)]) → L'.length ≤ l.length + 1 → l.length + 1 ≤ L'.length → OwnF w' B (.slice A' L'.length c') L' → Below B (w1.alloc (.cells (FtC a k r nm A1 L.length c1) 41)) w' → K (act.put o.dst (.slice A' L'.length c')) w') :
    o.wp Tryz.prog act (w1.alloc (.cells (FtC a k r nm A1 L.length c1) 41)) K Q := by
  have hF0 := hF
  obtain ⟨xs, h1, h2⟩ := hF
  have h1' := (h1.belowAll hb).alloc (.cells (FtC a k r nm A1 L.length c1) 41)
  have h2' := (h2.belowAll hb).belowAll ((Below.refl _ _).alloc (Nat.le_refl _) (.cells (FtC a k r nm A1 L.length c1) 41))
  have hsz := hb.size
  refine step_appF (l := l) (l2 := [(a, k, r, nm, L)]) (xs := xs) (ys := [(a, k, r, nm, A1, L.length, c1)]) _ s x ho hv h1' h2' (w1.heap.size + 1) _ 1 1 hx rfl
    (seesE_new elF w1 _ _ _ _ (Nat.lt_succ_self _) rfl)
    (rows_one (C := w0.heap.size) ((hP.mono hbase).alloc _) (fun b hb' => (hP.lt b hb').1) (fun g hg => (hF0.lt g hg).2) ⟨rfl, rfl, rfl, rfl⟩)
    (rows_sep h2 (Nat.le_refl _) (fun j y b hy hb' => ?_)) h63 (by simp; omega) h
  match j, hy with
  | 0, hy => simp at hy; subst hy; exact (hP.lt b hb').1
/-- Features that were made anew behind world w0 are appended: a step. -/
theorem stepF2 {o : Oper} {act : Act} {K : Act → World → Prop} {Q : Exit → Act → World → Prop} {l2 : List Feat} (w1 : World) (s x : Operand)
    (ho : o.op = .call { callee := .builtin .append, args := #[s, x], argTypes := #[45, 45] })
    (hv : act.eval s = v) (hF : OwnF w0 B v l) (hb : Below w0.heap.size w0 w1) (A : Option Addr) (m c : Nat) (hG : OwnF w1 w0.heap.size (.slice A m c) l2)
    (hx : act.eval x = .slice A m c) (h63 : l.length + l2.length ≤ 1099511627776) (hbase : B ≤ w0.heap.size)
    (h : ∀ A' c' L' w', Hid (L' = l ++ l2) → L'.length ≤ l.length + l2.length → l.length + l2.length ≤ L'.length → OwnF w' B (.slice A' L'.length c') L' → Below B w1 w' → K (act.put o.dst (.slice A' L'.length c')) w') :
    o.wp Tryz.prog act w1 K Q := by
  have hF0 := hF
  obtain ⟨xs, h1, h2⟩ := hF
  obtain ⟨ys, g1, g2⟩ := hG
  have hsz := hb.size
  have hm := (own_caps g1).1
  refine step_appF (l := l) (l2 := l2) (xs := xs) (ys := ys) w1 s x ho hv (h1.belowAll hb) (h2.belowAll hb) w1.heap.size A m c hx hm (g1.sees elF) ((g2.turn fun g hg => (hF0.lt g hg).2).mono hbase)
    (rows_sep h2 (Nat.le_refl _) (fun j y b hy hb' => ?_)) h63 (by omega) h
  obtain ⟨f, hf⟩ : ∃ f, l2[j]? = some f := ⟨_, List.getElem?_eq_getElem (by rw [← g2.1]; exact (List.getElem?_eq_some_iff.1 hy).1)⟩
  exact ((g2.2.2 j y f hy hf).2.1.lt b hb').1
end
end Go.Proofs.YtbnjaaegbmhopaaGreatDoor
end
section
/- Features: l9Feature and l9Copy of the model. -/
namespace Go.Proofs.YtbnjaaegbmhopaaGreatDoor
open Go.ChangeShapes Go.WideShapes Go.ChangeAt Go.RowKit
set_option linter.unusedVariables false

theorem Vars.keepB {w0 w w' : World} {l : List (Array Value)} {B : Nat} (h : Vars w0 w l) (hb : Below B w w') (hB : w0.heap.size + l.length ≤ B) : Vars w0 w' l := by
  refine ⟨h.1.trans (hb.mono (by omega)), Nat.le_trans h.2.1 hb.size, fun j x hj => ?_⟩
  have hl : j < l.length := (List.getElem?_eq_some_iff.1 hj).1
  obtain ⟨T, h3⟩ := h.2.2 j x hj
  exact ⟨T, (hb.block _ (by omega)).trans h3⟩
theorem Vars.f50 {w0 w : World} {l : List (Array Value)} {cs : Array Value} (h : Vars w0 w (cs :: l)) (i : Nat) : w.frozen? ⟨w0.heap.size, i, none⟩ = false := h.frozen w0.heap.size 0 i rfl rfl
theorem Vars.f51 {w0 w : World} {l : List (Array Value)} {cs cs' : Array Value} (h : Vars w0 w (cs :: cs' :: l)) : w.frozen? ⟨w0.heap.size + 1, 0, none⟩ = false ∧ w.frozen? ⟨w0.heap.size + 1, 1, none⟩ = false ∧ w.frozen? ⟨w0.heap.size + 1, 2, none⟩ = false ∧ w.frozen? ⟨w0.heap.size + 1, 3, none⟩ = false ∧ w.frozen? ⟨w0.heap.size + 1, 4, none⟩ = false :=
  ⟨h.frozen _ 1 0 rfl rfl, h.frozen _ 1 1 rfl rfl, h.frozen _ 1 2 rfl rfl, h.frozen _ 1 3 rfl rfl, h.frozen _ 1 4 rfl rfl⟩
theorem Vars.c51 {w0 w : World} {l : List (Array Value)} {cs : Array Value} {v0 v1 v2 v3 v4 : Value} (h : Vars w0 w (cs :: #[v0, v1, v2, v3, v4] :: l)) : w.cell? ⟨w0.heap.size + 1, 0, none⟩ = some v0 ∧ w.cell? ⟨w0.heap.size + 1, 1, none⟩ = some v1 ∧ w.cell? ⟨w0.heap.size + 1, 2, none⟩ = some v2 ∧ w.cell? ⟨w0.heap.size + 1, 3, none⟩ = some v3 ∧ w.cell? ⟨w0.heap.size + 1, 4, none⟩ = some v4 := h.c5 _ 1 rfl rfl
/-- A store ahead of what the call owns. -/
theorem OwnE.putO {α : Type} {n : Nat} {enc : α → List Value} {w : World} {B : Nat} {e : TypeId} {v : Value} {L : List α} (h : OwnE n enc w B e v L) {b : Nat} (hb : b < B) (i : Nat) (u : Value) : OwnE n enc (w.setCell ⟨b, i, none⟩ u) B e v L := by
  refine ⟨h.1, ?_⟩
  rcases h.2 with hn | ⟨g, cap, cur, rfl, hB, hg, rest⟩
  · exact .inl hn
  · exact .inr ⟨g, cap, cur, rfl, hB, (Below.heap_setCell _ _ _ _ (by simp; omega)).trans hg, rest⟩
/-- A call gives a feature whose points lie in new memory. -/
def GivesFt (a k r : Int) (s : ByteArray) (ps : List (Int × Int)) (w : World) (e : Ending) (w' : World) : Prop :=
  ∃ A L c, Hid (L = ps) ∧ e = .returned (FtV a k r s A L.length c) ∧ OwnE 2 encPoint w' w.heap.size 33 (.slice A L.length c) L ∧ Below w.heap.size w w'
set_option maxRecDepth 100000 in
set_option maxHeartbeats 1000000 in
theorem sl9Feature_any (a k r : Int) (s : ByteArray) (A : Option Addr) (c : Nat) (ps : List (Int × Int)) (w : World) (hs : SeesE 2 encPoint w w.heap.size A ps) (hl : ps.length ≤ 1099511627776) :
    Calls Tryz.prog 166 #[FtV a k r s A ps.length c] w (GivesFt a k r s ps w) := by
  have HS := Lib.hid hs; clear hs
  have HV0 := Lib.hid (Vars.of2 w (FtC a k r s A ps.length c) (FtC 0 0 0 ⟨#[]⟩ none 0 0) 41 41)
  have HS0 := Lib.hid (HS.out.below HV0.out.1)
  go_enter Tryz.func166, Tryz.ntmps166
  go_upto_region 1 with fail
  generalize hwz : ((w.alloc (.cells (FtC a k r s A ps.length c) 41)).alloc (.cells (FtC 0 0 0 ⟨#[]⟩ none 0 0) 41)) = wz at HV0 HS0 ⊢
  have hz2 : w.heap.size + 2 ≤ wz.heap.size := HV0.out.more2
  clear hwz
  have HVa := Lib.hid (HV0.out.al (.cells #[] 33))
  obtain ⟨k0, k1, k2, k3, k4⟩ := HVa.out.c50
  go_wp2_with (at_builtin; refine appPoint _ rfl _ _ rfl wz.heap.size _ [] rfl (OwnE.lit wz wz.heap.size 33 (Nat.le_refl _)) w.heap.size A ps.length c ps rfl rfl (HS0.out.alloc (by omega) _) (by simp; omega) (by simp) ?_; intro A1 c1 L w1 hL h1 h2 ho hb; have HL : Hid (L = ps) := Lib.hid (by rw [hL.out]; rfl); have HV1 := Lib.hid (HVa.out.keepB hb hz2); have HO := Lib.hid ho; have HB1 := Lib.hid hb; clear h1 h2 ho hb hL; obtain ⟨q0, q1, q2, q3, q4⟩ := HV1.out.c50; obtain ⟨j0, j1, j2, j3, j4⟩ := HV1.out.c51; obtain ⟨f0, f1, f2, f3, f4⟩ := HV1.out.f51; have f5 := HV1.out.f50 4)
  refine bodyPost_ret (v := FtV a k r s A1 L.length c1) (by simp [results, Tryz.results166, go_sem, j0, j1, j2, j3, j4]) rfl ?_
  have hB0 : w.heap.size ≤ wz.heap.size := by omega
  refine ⟨A1, L, c1, HL, rfl, ((((((HO.out.putO (by omega) _ _).putO (by omega) _ _).putO (by omega) _ _).putO (by omega) _ _).putO (by omega) _ _).putO (by omega) _ _).mono hB0, ?_⟩
  exact (((((HV1.out.1.setCell (Nat.le_refl _) _).setCell (by simp) _).setCell (by simp) _).setCell (by simp) _).setCell (by simp) _).setCell (by simp) _
/-- A call gives features of its own. -/
def GivesF (l : List Feat) (w : World) (e : Ending) (w' : World) : Prop :=
  ∃ A L c, Hid (L = l) ∧ e = .returned (.slice A L.length c) ∧ OwnF w' w.heap.size (.slice A L.length c) L ∧ Below w.heap.size w w'
/-- All features' points are few. -/
def FewP (l : List Feat) : Prop := ∀ (j : Nat) (f : Feat), l[j]? = some f → f.2.2.2.2.length ≤ 274877906944
/-- Small enough for a walk: names and points. -/
def SmallF (l : List Feat) : Prop := ∀ (j : Nat) (f : Feat), l[j]? = some f → f.2.2.2.2.length ≤ 274877906944 ∧ f.2.2.2.1.size ≤ maxLen
section
variable {l : List Feat}
theorem SmallF.few (h : SmallF l) : FewP l := fun j f hf => (h j f hf).1
theorem SmallF.take (h : SmallF l) (j : Nat) : SmallF (l.take j) := fun i f hf => by
  rw [List.getElem?_take] at hf
  split at hf
  · exact h i f hf
  · cases hf
theorem SmallF.drop (h : SmallF l) (j : Nat) : SmallF (l.drop j) := fun i f hf => by
  rw [List.getElem?_drop] at hf
  exact h _ f hf
end
set_option maxRecDepth 100000 in
set_option maxHeartbeats 1000000 in
theorem sl9Copy_any (A : Option Addr) (c : Nat) (l : List Feat) (w : World) (hs : SeesF w w.heap.size A l) (hl : l.length ≤ 1099511627776) (hp : FewP l) :
    Calls Tryz.prog 165 #[.slice A l.length c] w (GivesF l w) := by
  have HS := Lib.hid hs; clear hs
  have HP := Lib.hid hp; clear hp
  go_enter Tryz.func165, Tryz.ntmps165
  go_wp2
  go_loopw [3, 4] (fun v iv wr => ∃ (j : Nat) (L : List Feat) (A0 : Option Addr) (c0 : Nat), j ≤ l.length ∧ iv = .int .i64 j ∧ v = .slice A0 L.length c0 ∧ L.length = j ∧ Hid (L = l.take j) ∧ Hid (OwnF wr w.heap.size (.slice A0 L.length c0) L) ∧ Hid (Below w.heap.size w wr)) (fun _ iv _ => l.length - (intOf iv).toNat)
  case atStart => exact ⟨0, [], _, 0, Nat.zero_le _, rfl, rfl, rfl, Lib.hid rfl, Lib.hid (OwnF.lit w w.heap.size (Nat.le_refl _)), Lib.hid ((Below.refl _ _).alloc (Nat.le_refl _) _)⟩
  case round =>
    obtain ⟨j, L, A0, c0, hj, rfl, rfl, hLj, HL, HO, HB⟩ := hrel
    have HLj := Lib.hid hLj
    by_cases hlt : j < l.length
    · have hlt' : (j : Int) < (l.length : Int) := by omega
      obtain ⟨⟨a, k, r, s, ps⟩, hf⟩ : ∃ f, l[j]? = some f := ⟨_, List.getElem?_eq_getElem hlt⟩
      obtain ⟨b, off, A', c', rfl, hb, hss, hcap, q0, q1, q2, q3, q4⟩ := (HS.out.below HB.out).at_ hf
      have HSS := Lib.hid (hss.mono HB.out.size)
      have hpl : ps.length ≤ 274877906944 := HP.out j _ hf
      have HF := Lib.hid hf
      have hL1 : L.length + 1 ≤ 1099511627776 := by omega
      clear hf hss hcap hLj
      go_wp2_with fail
      refine (sl9Feature_any a k r s A' c' ps _ HSS.out (by omega)).mono ?_
      rintro e w1 ⟨A1, P, c1, hP, rfl, ho1, hb1⟩
      have HO1 := Lib.hid ho1
      have HPs := hP
      have HB0 := Lib.hid hb1
      have HB1 := Lib.hid (HB.out.trans (hb1.mono HB.out.size))
      have hbs := HB.out.size
      clear ho1 hb1 hP q0 q1 q2 q3 q4
      go_wp2_with (at_builtin; refine wpList_appF1 (nm := s) (a := a) (k := k) (r := r) w1 rfl _ _ rfl rfl HO.out HB0.out HO1.out rfl hL1 hbs ?_; intro A2 c2 L2 w2 hL2 h1 h2 ho2 hb2)
      go_roundw
      case rel => exact ⟨j + 1, L2, A2, c2, by omega, by go_num, rfl, by have := HLj.out; omega, Lib.hid (by rw [hL2.out, HL.out, HPs.out, List.take_add_one, HF.out]; rfl), Lib.hid ho2, Lib.hid ((HB1.out.alloc HB1.out.size _).trans hb2)⟩
      case measure => simp [intOf]; omega
    · obtain rfl : j = l.length := by omega
      have hlt' : ¬ (l.length : Int) < (l.length : Int) := by omega
      have HE : Hid (L = l) := Lib.hid (by rw [HL.out, List.take_length])
      clear hLj HLj HL
      go_wp2
      go_ret
      exact ⟨A0, L, c0, HE, rfl, HO.out, HB.out⟩
end Go.Proofs.YtbnjaaegbmhopaaGreatDoor
end
section
/- Features: what the laws do with them: toFeature, eqFeature, and slices of them. -/
namespace Go.Proofs.YtbnjaaegbmhopaaGreatDoor
open Go.ChangeShapes Go.WideShapes Go.ChangeAt Go.RowKit
set_option linter.unusedVariables false

theorem Vars.c52 {w0 w : World} {l : List (Array Value)} {cs cs' : Array Value} {v0 v1 v2 v3 v4 : Value} (h : Vars w0 w (cs :: cs' :: #[v0, v1, v2, v3, v4] :: l)) : w.cell? ⟨w0.heap.size + 1 + 1, 0, none⟩ = some v0 ∧ w.cell? ⟨w0.heap.size + 1 + 1, 1, none⟩ = some v1 ∧ w.cell? ⟨w0.heap.size + 1 + 1, 2, none⟩ = some v2 ∧ w.cell? ⟨w0.heap.size + 1 + 1, 3, none⟩ = some v3 ∧ w.cell? ⟨w0.heap.size + 1 + 1, 4, none⟩ = some v4 := h.c5 _ 2 rfl rfl
set_option maxRecDepth 100000 in
set_option maxHeartbeats 1000000 in
theorem toFeature_any (a k r : Int) (s : ByteArray) (A : Option Addr) (c : Nat) (ps : List (Int × Int)) (w : World) (hs : SeesE 2 encPoint w w.heap.size A ps) (hl : ps.length ≤ 1099511627776) :
    Calls Tryz.prog 27 #[FtV a k r s A ps.length c] w (GivesFt a k r s ps w) := by
  have HS := Lib.hid hs; clear hs
  have HV0 := Lib.hid (Vars.of3 w (FtC a k r s A ps.length c) (FtC 0 0 0 ⟨#[]⟩ none 0 0) (FtC a k r s none 0 0) 54 41 41)
  go_enter Tryz.func27, Tryz.ntmps27
  go_upto_region 6 with fail
  generalize hwz : (((w.alloc (.cells (FtC a k r s A ps.length c) 54)).alloc (.cells (FtC 0 0 0 ⟨#[]⟩ none 0 0) 41)).alloc (.cells (FtC a k r s none 0 0) 41)) = wz at HV0 ⊢
  clear hwz
  have hB0 : w.heap.size + 3 ≤ wz.heap.size := HV0.out.more3
  obtain ⟨k0, k1, k2, k3, k4⟩ := HV0.out.c50
  have HS1 := Lib.hid ((HS.out.below HV0.out.1).mono HV0.out.1.size)
  go_wp2_with fail
  refine (toPointS_any A c ps _ HS1.out hl).mono ?_
  rintro e w1 ⟨A1, c1, L, hL, rfl, ho, hb⟩
  have HL := hL
  have HO := Lib.hid ho
  have HV1 := Lib.hid (HV0.out.next hb)
  clear hL ho hb k0 k1 k2 k3 k4
  obtain ⟨j0, j1, j2, j3, j4⟩ := HV1.out.c51
  obtain ⟨q0, q1, q2, q3, q4⟩ := HV1.out.c52
  obtain ⟨f0, f1, f2, f3, f4⟩ := HV1.out.f51
  have f5 := HV1.out.frozen (w.heap.size + 1 + 1) 2 4 rfl rfl
  go_wp2
  refine bodyPost_ret (v := FtV a k r s A1 L.length c1) (by simp [results, Tryz.results27, go_sem, j0, j1, j2, j3, j4]) rfl ?_
  refine ⟨A1, L, c1, HL, rfl, ((((((HO.out.putO (by omega) _ _).putO (by omega) _ _).putO (by omega) _ _).putO (by omega) _ _).putO (by omega) _ _).putO (by omega) _ _).mono (by omega), ?_⟩
  exact (((((HV1.out.1.setCell (by simp; omega) _).setCell (by simp) _).setCell (by simp) _).setCell (by simp) _).setCell (by simp) _).setCell (by simp) _
set_option maxRecDepth 100000 in
set_option maxHeartbeats 1000000 in
theorem eqFeature_yes (a k r : Int) (s : ByteArray) (A A' : Option Addr) (c c' : Nat) (ps ps' : List (Int × Int)) (w : World) (hs : SeesE 2 encPoint w w.heap.size A ps) (hs' : SeesE 2 encPoint w w.heap.size A' ps') (he : ps = ps') (hl : ps.length ≤ 1099511627776) :
    Calls Tryz.prog 30 #[FtV a k r s A ps.length c, FtV a k r s A' ps'.length c'] w fun e w' => e = .returned (.bool true) ∧ Below w.heap.size w w' := by
  have HV := Lib.hid (Vars.of2 w (FtC a k r s A ps.length c) (FtC a k r s A' ps'.length c') 41 41)
  have HS := Lib.hid ((hs.below HV.out.1).mono HV.out.1.size)
  have HS' := Lib.hid ((hs'.below HV.out.1).mono HV.out.1.size)
  have HE := Lib.hid he
  clear hs hs' he
  go_enter Tryz.func30, Tryz.ntmps30
  go_wp2_with fail
  refine (eqPointS_yes A A' c c' ps ps' _ HS.out HS'.out HE.out hl).mono ?_
  rintro e w1 ⟨rfl, hb1⟩
  have HV1 := Lib.hid (HV.out.next hb1)
  clear hb1
  go_wp2
  go_ret
  exact ⟨rfl, HV1.out.1⟩
section
variable {w : World} {g B cc : Nat} {e : TypeId} {L : List FCel} {j : Nat} {v : Value} {l : List Feat}
/-- One feature's cells are written. -/
theorem rowF_set (h : RowE 5 encF w g e cc L) (hj : j < L.length) (a k r : Int) (s : ByteArray) (A : Option Addr) (n m : Nat) :
    RowE 5 encF (((((w.setCell ⟨g, j * 5, none⟩ (.int .i64 a)).setCell ⟨g, j * 5 + 1, none⟩ (.int .i64 k)).setCell ⟨g, j * 5 + 2, none⟩ (.int .i64 r)).setCell ⟨g, j * 5 + 3, none⟩ (.string s)).setCell ⟨g, j * 5 + 4, none⟩ (.slice A n m)) g e cc (L.set j (a, k, r, s, A, n, m)) := by
  obtain ⟨⟨y0, y1, y2, y3, y4, y5, y6⟩, hx⟩ : ∃ x, L[j]? = some x := ⟨_, List.getElem?_eq_getElem hj⟩
  have h1 := h.put elF (k := 0) (x' := (a, y1, y2, y3, y4, y5, y6)) (v := .int .i64 a) hx (by decide) rfl
  have h2 := h1.put elF (k := 1) (x' := (a, k, y2, y3, y4, y5, y6)) (v := .int .i64 k) (List.getElem?_set_self (by simpa using hj)) (by decide) rfl
  have h3 := h2.put elF (k := 2) (x' := (a, k, r, y3, y4, y5, y6)) (v := .int .i64 r) (List.getElem?_set_self (by simpa using hj)) (by decide) rfl
  have h4 := h3.put elF (k := 3) (x' := (a, k, r, s, y4, y5, y6)) (v := .string s) (List.getElem?_set_self (by simpa using hj)) (by decide) rfl
  have h5 := h4.put elF (k := 4) (x' := (a, k, r, s, A, n, m)) (v := .slice A n m) (List.getElem?_set_self (by simpa using hj)) (by decide) rfl
  simp only [List.set_set, Nat.add_zero] at h5
  exact h5
theorem rowF_cells (h : RowE 5 encF w g e cc L) {y : FCel} (hx : L[j]? = some y) : w.cell? ⟨g, j * 5, none⟩ = some (.int .i64 y.1) ∧ w.cell? ⟨g, j * 5 + 1, none⟩ = some (.int .i64 y.2.1) ∧ w.cell? ⟨g, j * 5 + 2, none⟩ = some (.int .i64 y.2.2.1) ∧ w.cell? ⟨g, j * 5 + 3, none⟩ = some (.string y.2.2.2.1) ∧ w.cell? ⟨g, j * 5 + 4, none⟩ = some (slF y) :=
  ⟨h.cell elF hx (k := 0) rfl, h.cell elF hx (k := 1) rfl, h.cell elF hx (k := 2) rfl, h.cell elF hx (k := 3) rfl, h.cell elF hx (k := 4) rfl⟩
theorem rowF_frz (h : RowE 5 encF w g e cc L) (j : Nat) : w.frozen? ⟨g, j * 5, none⟩ = false ∧ w.frozen? ⟨g, j * 5 + 1, none⟩ = false ∧ w.frozen? ⟨g, j * 5 + 2, none⟩ = false ∧ w.frozen? ⟨g, j * 5 + 3, none⟩ = false ∧ w.frozen? ⟨g, j * 5 + 4, none⟩ = false :=
  ⟨h.frozen _, h.frozen _, h.frozen _, h.frozen _, h.frozen _⟩
theorem OwnE.putN {α : Type} {n : Nat} {enc : α → List Value} {LL : List α} (h : OwnE n enc w B e v LL) {b : Nat} (hb : v.ownBlock ≠ some b) (i : Nat) (u : Value) : OwnE n enc (w.setCell ⟨b, i, none⟩ u) B e v LL := by
  refine ⟨h.1, ?_⟩
  rcases h.2 with hn | ⟨g, cap, cur, rfl, hB, hg, rest⟩
  · exact .inl hn
  · exact .inr ⟨g, cap, cur, rfl, hB, (Below.heap_setCell _ _ _ _ (by intro e; apply hb; simp [Value.ownBlock]; first | exact e | exact e.symm)).trans hg, rest⟩
theorem RowsF.putN (h : RowsF w B v L l) {b : Nat} (hv : v.ownBlock = some b) (i : Nat) (u : Value) : RowsF (w.setCell ⟨b, i, none⟩ u) B v L l :=
  ⟨h.1, h.2.1, fun j x f hx hf => by
    obtain ⟨h1, h2, h3⟩ := h.2.2 j x f hx hf
    exact ⟨h1, h2.putN (fun e => h3 b e hv) i u, h3⟩⟩
end
theorem take_setF {α : Type} (xs : List α) (j : Nat) (x : α) (h : j < xs.length) : (xs.set j x).take (j + 1) = xs.take j ++ [x] := by
  have e : (xs.set j x).take j = xs.take j := by
    apply List.ext_getElem?
    intro i
    rw [List.getElem?_take, List.getElem?_take]
    split
    · rw [List.getElem?_set_ne (by omega)]
    · rfl
  rw [List.take_add_one, List.getElem?_set_self h, e]
  rfl
set_option maxRecDepth 100000 in
set_option maxHeartbeats 1000000 in
theorem toFeatureS_any (A : Option Addr) (c : Nat) (l : List Feat) (w : World) (hs : SeesF w w.heap.size A l) (hl : l.length ≤ 1099511627776) (hp : FewP l) :
    Calls Tryz.prog 36 #[.slice A l.length c] w (GivesF l w) := by
  have HS := Lib.hid hs
  have HP := Lib.hid hp
  obtain ⟨n, hn⟩ : ∃ n, l.length = n := ⟨_, rfl⟩
  have HN := Lib.hid hn
  rw [hn] at hl ⊢
  clear hs hp hn
  obtain ⟨i, hi, hz, hi1, hi2⟩ := info_parts infoFeature
  have HI := Lib.hid (And.intro hi (And.intro hz (And.intro hi1 hi2)))
  clear hi hz hi1 hi2
  go_enter Tryz.func36, Tryz.ntmps36
  go_wp2_with (at_make; refine wpList_make_rowE w elF rfl _ _ _ rfl _ i _ (0, 0, 0, ⟨#[]⟩, none, 0, 0) 64 Tryz.underlying45 HI.out.1 HI.out.2.1 HI.out.2.2.1 HI.out.2.2.2 (by decide) rfl .i64 .i64 n rfl rfl hl ?_; intro w1 hrow hb1)
  have HR := Lib.hid hrow
  have HB := Lib.hid hb1
  clear hrow hb1 HI
  go_loopw [4] (fun iv wr => ∃ (j : Nat) (xs : List FCel), j ≤ n ∧ iv = .int .i64 j ∧ Hid (xs.length = n) ∧ Hid (RowE 5 encF wr w.heap.size 41 n xs) ∧ Hid (RowsF wr w.heap.size (.slice (some ⟨w.heap.size, 0, none⟩) n n) (xs.take j) (l.take j)) ∧ Hid (Below w.heap.size w wr)) (fun iv _ => n - (intOf iv).toNat)
  case atStart => exact ⟨0, _, Nat.zero_le _, rfl, Lib.hid (by simp), HR, Lib.hid ⟨rfl, fun i j x y b _ hx => by simp at hx, fun j x f hx => by simp at hx⟩, HB⟩
  case round =>
    obtain ⟨j, xs, hj, rfl, HX, HRr, HRs, HBr⟩ := hrel
    clear HR HB
    by_cases hlt : j < n
    · have hji : (j : Int) < (n : Int) := by omega
      obtain ⟨⟨a, k, r, s, ps⟩, hf⟩ : ∃ f, l[j]? = some f := ⟨_, List.getElem?_eq_getElem (by rw [HN.out]; exact hlt)⟩
      obtain ⟨b, off, A', c', rfl, hb, hss, -, q0, q1, q2, q3, q4⟩ := (HS.out.below HBr.out).at_ hf
      have HSS := Lib.hid (hss.mono HBr.out.size)
      have hpl : ps.length ≤ 1099511627776 := Nat.le_trans (HP.out j _ hf) (by decide)
      have HF := Lib.hid hf
      clear hf hss
      go_wp2_with fail
      refine (toFeature_any a k r s A' c' ps _ HSS.out hpl).mono ?_
      rintro e w2 ⟨A1, P, c1, hP, rfl, ho, hb2⟩
      obtain rfl : ps = P := hP.out.symm
      have HO := Lib.hid ho
      have hsz := HBr.out.size
      have HB2 := Lib.hid (HBr.out.trans (hb2.mono hsz))
      have HR2 := Lib.hid (HRr.out.below hb2 HRr.out.lt)
      have HRs2 := Lib.hid (HRs.out.belowAll hb2)
      have hge : wr.heap.size ≤ w2.heap.size := hb2.size
      have hglt : w.heap.size < wr.heap.size := HRr.out.lt
      clear hP ho hb2 q0 q1 q2 q3 q4
      obtain ⟨y, hy⟩ : ∃ y, xs[j]? = some y := ⟨_, List.getElem?_eq_getElem (by rw [HX.out]; exact hlt)⟩
      obtain ⟨k0, k1, k2, k3, k4⟩ := rowF_cells HR2.out hy
      obtain ⟨f0, f1, f2, f3, f4⟩ := rowF_frz HR2.out j
      clear hy
      have HRW : Hid (RowsF w2 w.heap.size (.slice (some ⟨w.heap.size, 0, none⟩) n n) ((xs.set j (a, k, r, s, A1, ps.length, c1)).take (j + 1)) (l.take (j + 1))) := Lib.hid (by
        rw [take_setF xs j _ (by rw [HX.out]; exact hlt), List.take_add_one, HF.out]
        refine HRs2.out.app (l2 := [(a, k, r, s, ps)]) (rows_one (C := wr.heap.size) (HO.out.mono hsz) (fun b hb => (HO.out.lt b hb).1) (fun g hg => ?_) ⟨rfl, rfl, rfl, rfl⟩) (rows_sep HRs.out (Nat.le_refl _) (fun q y b hy hb => ?_))
        · simp only [Value.ownBlock, Option.some.injEq] at hg
          omega
        · match q, hy with
          | 0, hy => simp at hy; subst hy; exact (HO.out.lt b hb).1)
      go_wp2
      go_roundw
      case rel => exact ⟨j + 1, xs.set j (a, k, r, s, A1, ps.length, c1), by omega, by go_num, Lib.hid (by rw [List.length_set]; exact HX.out), Lib.hid (rowF_set HR2.out (by rw [HX.out]; exact hlt) a k r s A1 ps.length c1), Lib.hid (((((HRW.out.putN rfl _ _).putN rfl _ _).putN rfl _ _).putN rfl _ _).putN rfl _ _), Lib.hid (((((HB2.out.setCell (Nat.le_refl _) _).setCell (Nat.le_refl _) _).setCell (Nat.le_refl _) _).setCell (Nat.le_refl _) _).setCell (Nat.le_refl _) _)⟩
      case measure => simp [intOf]; omega
    · obtain rfl : j = n := by omega
      have hji : ¬ (j : Int) < (j : Int) := by omega
      have HOwn : Hid (OwnF wr w.heap.size (.slice (some ⟨w.heap.size, 0, none⟩) j j) l) := Lib.hid (by
        refine ⟨xs, ?_, ?_⟩
        · have := HRr.out.own elF (Nat.le_refl _)
          rwa [HX.out] at this
        · have := HRs.out
          rwa [List.take_of_length_le (by rw [HX.out]; exact Nat.le_refl _), List.take_of_length_le (by rw [HN.out]; exact Nat.le_refl _)] at this)
      go_wp2
      go_ret
      exact ⟨some ⟨w.heap.size, 0, none⟩, l, j, Lib.hid rfl, by rw [HN.out]; rfl, by rw [HN.out]; exact HOwn.out, HBr.out⟩
end Go.Proofs.YtbnjaaegbmhopaaGreatDoor
end
section
/- The laws' marks over slices of structs, and the look at them. -/
namespace Go.Proofs.YtbnjaaegbmhopaaGreatDoor
open Go.ChangeShapes Go.WideShapes Go.ChangeAt Go.RowKit
set_option linter.unusedVariables false

theorem growE_setCell {w w0 : World} {p : Nat} (hg : w0.grownBy w (some p)) (j : Nat) (v : Value) : w0.grownBy (w.setCell ⟨p, j, none⟩ v) (some p) :=
  ⟨hg.os, hg.tape, hg.output, Nat.le_trans hg.size (by simp [World.setCell]), fun k hk hne => (Below.heap_setCell _ _ _ _ (fun e => hne (by rw [e]))).trans (hg.block k hk hne)⟩
/-- What a mark lays at place j. -/
def mkAtPoint (k0 j : Nat) : Int × Int := (((k0 + j * 2 : Nat) : Int), ((k0 + j * 2 : Nat) : Int) + 1)
def mkPoint (k0 m : Nat) : List (Int × Int) := (List.range m).map (mkAtPoint k0)
theorem mkPoint_len (k0 m : Nat) : (mkPoint k0 m).length = m := by simp [mkPoint]
theorem mkPoint_get (k0 m i : Nat) (h : i < m) : (mkPoint k0 m)[i]? = some (mkAtPoint k0 i) := by simp [mkPoint, h]
def MarkPointRel (B : Nat) (A : Option Addr) (m c k0 : Nat) (w : World) (kk i : Value) (wr : World) : Prop :=
  ∃ (j : Nat) (L : List (Int × Int)), j ≤ m ∧ i = .int .i64 j ∧ kk = .int .i64 (k0 + j * 2 : Nat) ∧ L.length = m ∧ FillE (fun i => some (mkAtPoint k0 i)) j L ∧ OwnE 2 encPoint wr B 33 (.slice A m c) L ∧ w.grownBy wr (Value.ownBlock (.slice A m c))
set_option maxRecDepth 100000 in
theorem markPoint_any (A : Option Addr) (m c k0 B : Nat) (l : List (Int × Int)) (w : World) (hm : l.length = m) (ho : OwnE 2 encPoint w B 33 (.slice A m c) l) (hl : m ≤ 1099511627776) (hk : k0 ≤ 1099511627776) :
    Calls Tryz.prog 69 #[.slice A m c, .int .i64 k0] w fun e w' => e = .returned (.int .i64 (k0 + m * 2 : Nat)) ∧ OwnE 2 encPoint w' B 33 (.slice A m c) (mkPoint k0 m) ∧ w.grownBy w' (Value.ownBlock (.slice A m c)) := by
  have HO := Lib.hid ho; clear ho
  have HN := Lib.hid hm; clear hm
  go_enter Tryz.func69, Tryz.ntmps69
  go_wp2
  go_loopw [1, 5] (fun kk i wr => MarkPointRel B A m c k0 w kk i wr) (fun _ i _ => m - (intOf i).toNat)
  case atStart => exact ⟨0, l, Nat.zero_le _, rfl, by go_num, HN.out, FillE.zero _ _, HO.out, World.grownBy.refl _ _⟩
  case round =>
    obtain ⟨j, L, hj, rfl, rfl, hL, hf, ho, hg⟩ := hrel
    clear HO HN
    by_cases hlt : j < m
    · obtain ⟨g, rfl, hB, -, hr⟩ := ho.row (by omega)
      obtain ⟨⟨y0, y1⟩, hy⟩ : ∃ y, L[j]? = some y := ⟨_, List.getElem?_eq_getElem (by omega)⟩
      obtain ⟨c0, c1⟩ := rowCellsPoint hr hy
      obtain ⟨f0, f1⟩ := rowFrozenPoint hr j
      have HF := Lib.hid hf; clear hf
      have HR := Lib.hid hr; clear hr
      have HL := Lib.hid hL; clear hL
      have HG := Lib.hid hg; clear hg
      clear hy ho
      obtain ⟨K, hK⟩ : ∃ K : Int, ((k0 + j * 2 : Nat) : Int) = K := ⟨_, rfl⟩
      have hK0 : 0 ≤ K ∧ K ≤ 6597069766656 := by omega
      have hw1 : IntKind.i64.wrap (K + 1) = K + 1 := IntWalk.i64_in _ (by omega)
      have hw2 : IntKind.i64.wrap (K + 1 + 1) = K + 1 + 1 := IntWalk.i64_in _ (by omega)
      have HA : Hid (mkAtPoint k0 j = (K, K + 1)) := Lib.hid (by rw [← hK]; rfl)
      have HK : Hid (K + 2 = ((k0 + (j + 1) * 2 : Nat) : Int)) := Lib.hid (by omega)
      rw [hK]
      clear hK hK0
      go_wp2
      go_roundw
      case rel =>
        have h2 := (rowPoint_set HR.out (by rw [HL.out]; exact hlt) (K) (K + 1)).own elPoint hB
        rw [List.length_set, HL.out] at h2
        exact ⟨j + 1, _, by omega, by go_num, by rw [← HK.out]; go_num, by rw [List.length_set]; exact HL.out, HF.out.set (by rw [HL.out]; exact hlt) (congrArg some HA.out), h2, (growE_setCell (growE_setCell HG.out (j * 2) _) (j * 2 + 1) _)⟩
      case measure => simp [intOf]; omega
    · obtain rfl : j = m := by omega
      have HF := Lib.hid hf; clear hf
      have HO := Lib.hid ho; clear ho
      have HG := Lib.hid hg; clear hg
      have HL := Lib.hid hL; clear hL
      go_wp2
      go_ret
      have e : L = mkPoint k0 j := FillE.done (f := fun i => some (mkAtPoint k0 i)) (by rw [HL.out]; exact HF.out) (by rw [mkPoint_len]; exact HL.out.symm) (fun i hi => mkPoint_get _ _ _ (by rw [mkPoint_len] at hi; exact hi))
      have ho := HO.out
      rw [e] at ho
      exact ⟨rfl, ho, HG.out⟩
/-- The mark of a held row. -/
def MarkPointHeld (lo hi : Nat) (A : Option Addr) (m c k0 : Nat) (w : World) (e : Ending) (w' : World) : Prop :=
  ∃ q : Nat, Hid (q = k0 + m * 2) ∧ e = .returned (.int .i64 q) ∧ HeldE 2 encPoint w' lo hi 33 (.slice A m c) (mkPoint k0 m) ∧ w.grownBy w' (Value.ownBlock (.slice A m c))
theorem markPoint_held (A : Option Addr) (m c k0 lo hi : Nat) (l : List (Int × Int)) (w : World) (ho : HeldE 2 encPoint w lo hi 33 (.slice A m c) l) (hm : l.length = m) (hl : m ≤ 1099511627776) (hk : k0 ≤ 1099511627776) :
    Calls Tryz.prog 69 #[.slice A m c, .int .i64 k0] w (MarkPointHeld lo hi A m c k0 w) :=
  (markPoint_any A m c k0 lo l w hm ho.1 hl hk).mono fun e w' ⟨h1, h2, h3⟩ => ⟨_, Lib.hid rfl, h1, ⟨h2, ho.2.1, Nat.le_trans ho.2.2 h3.size⟩, h3⟩
/-- What a mark lays at place j. -/
def mkAtSegment (k0 j : Nat) : Int × Int × Int × Int := (((k0 + j * 4 : Nat) : Int), ((k0 + j * 4 : Nat) : Int) + 1, ((k0 + j * 4 : Nat) : Int) + 1 + 1, ((k0 + j * 4 : Nat) : Int) + 1 + 1 + 1)
def mkSegment (k0 m : Nat) : List (Int × Int × Int × Int) := (List.range m).map (mkAtSegment k0)
theorem mkSegment_len (k0 m : Nat) : (mkSegment k0 m).length = m := by simp [mkSegment]
theorem mkSegment_get (k0 m i : Nat) (h : i < m) : (mkSegment k0 m)[i]? = some (mkAtSegment k0 i) := by simp [mkSegment, h]
def MarkSegmentRel (B : Nat) (A : Option Addr) (m c k0 : Nat) (w : World) (kk i : Value) (wr : World) : Prop :=
  ∃ (j : Nat) (L : List (Int × Int × Int × Int)), j ≤ m ∧ i = .int .i64 j ∧ kk = .int .i64 (k0 + j * 4 : Nat) ∧ L.length = m ∧ FillE (fun i => some (mkAtSegment k0 i)) j L ∧ OwnE 4 encSegment wr B 78 (.slice A m c) L ∧ w.grownBy wr (Value.ownBlock (.slice A m c))
set_option maxRecDepth 100000 in
theorem markSegment_any (A : Option Addr) (m c k0 B : Nat) (l : List (Int × Int × Int × Int)) (w : World) (hm : l.length = m) (ho : OwnE 4 encSegment w B 78 (.slice A m c) l) (hl : m ≤ 1099511627776) (hk : k0 ≤ 1099511627776) :
    Calls Tryz.prog 32 #[.slice A m c, .int .i64 k0] w fun e w' => e = .returned (.int .i64 (k0 + m * 4 : Nat)) ∧ OwnE 4 encSegment w' B 78 (.slice A m c) (mkSegment k0 m) ∧ w.grownBy w' (Value.ownBlock (.slice A m c)) := by
  have HO := Lib.hid ho; clear ho
  have HN := Lib.hid hm; clear hm
  go_enter Tryz.func32, Tryz.ntmps32
  go_wp2
  go_loopw [1, 5] (fun kk i wr => MarkSegmentRel B A m c k0 w kk i wr) (fun _ i _ => m - (intOf i).toNat)
  case atStart => exact ⟨0, l, Nat.zero_le _, rfl, by go_num, HN.out, FillE.zero _ _, HO.out, World.grownBy.refl _ _⟩
  case round =>
    obtain ⟨j, L, hj, rfl, rfl, hL, hf, ho, hg⟩ := hrel
    clear HO HN
    by_cases hlt : j < m
    · obtain ⟨g, rfl, hB, -, hr⟩ := ho.row (by omega)
      obtain ⟨⟨y0, y1, y2, y3⟩, hy⟩ : ∃ y, L[j]? = some y := ⟨_, List.getElem?_eq_getElem (by omega)⟩
      obtain ⟨c0, c1, c2, c3⟩ := rowCellsSegment hr hy
      obtain ⟨f0, f1, f2, f3⟩ := rowFrozenSegment hr j
      have HF := Lib.hid hf; clear hf
      have HR := Lib.hid hr; clear hr
      have HL := Lib.hid hL; clear hL
      have HG := Lib.hid hg; clear hg
      clear hy ho
      obtain ⟨K, hK⟩ : ∃ K : Int, ((k0 + j * 4 : Nat) : Int) = K := ⟨_, rfl⟩
      have hK0 : 0 ≤ K ∧ K ≤ 6597069766656 := by omega
      have hw1 : IntKind.i64.wrap (K + 1) = K + 1 := IntWalk.i64_in _ (by omega)
      have hw2 : IntKind.i64.wrap (K + 1 + 1) = K + 1 + 1 := IntWalk.i64_in _ (by omega)
      have hw3 : IntKind.i64.wrap (K + 1 + 1 + 1) = K + 1 + 1 + 1 := IntWalk.i64_in _ (by omega)
      have hw4 : IntKind.i64.wrap (K + 1 + 1 + 1 + 1) = K + 1 + 1 + 1 + 1 := IntWalk.i64_in _ (by omega)
      have HA : Hid (mkAtSegment k0 j = (K, K + 1, K + 1 + 1, K + 1 + 1 + 1)) := Lib.hid (by rw [← hK]; rfl)
      have HK : Hid (K + 4 = ((k0 + (j + 1) * 4 : Nat) : Int)) := Lib.hid (by omega)
      rw [hK]
      clear hK hK0
      go_wp2
      go_roundw
      case rel =>
        have h2 := (rowSegment_set HR.out (by rw [HL.out]; exact hlt) (K) (K + 1) (K + 1 + 1) (K + 1 + 1 + 1)).own elSegment hB
        rw [List.length_set, HL.out] at h2
        exact ⟨j + 1, _, by omega, by go_num, by rw [← HK.out]; go_num, by rw [List.length_set]; exact HL.out, HF.out.set (by rw [HL.out]; exact hlt) (congrArg some HA.out), h2, (growE_setCell (growE_setCell (growE_setCell (growE_setCell HG.out (j * 4) _) (j * 4 + 1) _) (j * 4 + 2) _) (j * 4 + 3) _)⟩
      case measure => simp [intOf]; omega
    · obtain rfl : j = m := by omega
      have HF := Lib.hid hf; clear hf
      have HO := Lib.hid ho; clear ho
      have HG := Lib.hid hg; clear hg
      have HL := Lib.hid hL; clear hL
      go_wp2
      go_ret
      have e : L = mkSegment k0 j := FillE.done (f := fun i => some (mkAtSegment k0 i)) (by rw [HL.out]; exact HF.out) (by rw [mkSegment_len]; exact HL.out.symm) (fun i hi => mkSegment_get _ _ _ (by rw [mkSegment_len] at hi; exact hi))
      have ho := HO.out
      rw [e] at ho
      exact ⟨rfl, ho, HG.out⟩
/-- The mark of a held row. -/
def MarkSegmentHeld (lo hi : Nat) (A : Option Addr) (m c k0 : Nat) (w : World) (e : Ending) (w' : World) : Prop :=
  ∃ q : Nat, Hid (q = k0 + m * 4) ∧ e = .returned (.int .i64 q) ∧ HeldE 4 encSegment w' lo hi 78 (.slice A m c) (mkSegment k0 m) ∧ w.grownBy w' (Value.ownBlock (.slice A m c))
theorem markSegment_held (A : Option Addr) (m c k0 lo hi : Nat) (l : List (Int × Int × Int × Int)) (w : World) (ho : HeldE 4 encSegment w lo hi 78 (.slice A m c) l) (hm : l.length = m) (hl : m ≤ 1099511627776) (hk : k0 ≤ 1099511627776) :
    Calls Tryz.prog 32 #[.slice A m c, .int .i64 k0] w (MarkSegmentHeld lo hi A m c k0 w) :=
  (markSegment_any A m c k0 lo l w hm ho.1 hl hk).mono fun e w' ⟨h1, h2, h3⟩ => ⟨_, Lib.hid rfl, h1, ⟨h2, ho.2.1, Nat.le_trans ho.2.2 h3.size⟩, h3⟩
set_option maxRecDepth 100000 in
theorem heldSegment_any (A : Option Addr) (m c k0 B : Nat) (w : World) (hs : SeesE 4 encSegment w B A (mkSegment k0 m)) (hl : m ≤ 1099511627776) (hk : k0 ≤ 1099511627776) :
    Calls Tryz.prog 33 #[.slice A m c, .int .i64 k0] w fun e w' => e = .returned (.int .i64 (k0 + m * 4 : Nat)) ∧ w = w' := by
  have HS := Lib.hid hs; clear hs
  go_enter Tryz.func33, Tryz.ntmps33
  go_wp2
  go_loop [1, 5] (fun kk i => ∃ j : Nat, j ≤ m ∧ i = .int .i64 j ∧ kk = .int .i64 (k0 + j * 4 : Nat)) (fun _ i => m - (intOf i).toNat)
  case atStart => exact ⟨0, Nat.zero_le _, rfl, by go_num⟩
  case round =>
    obtain ⟨j, hj, rfl, rfl⟩ := hrel
    by_cases hlt : j < m
    · obtain ⟨b, off, rfl, hbl, -⟩ := HS.out j _ (mkSegment_get k0 m j hlt)
      obtain ⟨K, hK⟩ : ∃ K : Int, ((k0 + j * 4 : Nat) : Int) = K := ⟨_, rfl⟩
      have hx : (mkSegment k0 m)[j]? = some (K, K + 1, K + 1 + 1, K + 1 + 1 + 1) := by rw [mkSegment_get k0 m j hlt, ← hK]; rfl
      obtain ⟨c0, c1, c2, c3⟩ := cellsSegment HS.out hx
      have hK0 : 0 ≤ K ∧ K ≤ 6597069766656 := by omega
      have hw1 : IntKind.i64.wrap (K + 1) = K + 1 := IntWalk.i64_in _ (by omega)
      have hw2 : IntKind.i64.wrap (K + 1 + 1) = K + 1 + 1 := IntWalk.i64_in _ (by omega)
      have hw3 : IntKind.i64.wrap (K + 1 + 1 + 1) = K + 1 + 1 + 1 := IntWalk.i64_in _ (by omega)
      have hw4 : IntKind.i64.wrap (K + 1 + 1 + 1 + 1) = K + 1 + 1 + 1 + 1 := IntWalk.i64_in _ (by omega)
      have HK : Hid (K + 4 = ((k0 + (j + 1) * 4 : Nat) : Int)) := Lib.hid (by omega)
      rw [hK]
      clear hK hK0 hx
      go_wp2
      go_round
      case rel => exact ⟨j + 1, by omega, by go_num, by rw [← HK.out]; go_num⟩
      case measure => simp [intOf]; omega
    · obtain rfl : j = m := by omega
      go_wp2
      go_ret
      exact ⟨rfl, rfl⟩
/-- The marks are found again: the next number. -/
theorem heldSegment_q (A : Option Addr) (m c k0 B : Nat) (w : World) (hs : SeesE 4 encSegment w B A (mkSegment k0 m)) (hl : m ≤ 1099511627776) (hk : k0 ≤ 1099511627776) :
    Calls Tryz.prog 33 #[.slice A m c, .int .i64 k0] w fun e w' => ∃ q : Nat, Hid (q = k0 + m * 4) ∧ e = .returned (.int .i64 q) ∧ w = w' :=
  (heldSegment_any A m c k0 B w hs hl hk).mono fun e w' ⟨h1, h2⟩ => ⟨_, Lib.hid rfl, h1, h2⟩
/-- What a mark lays at place j. -/
def mkAtMeet (k0 j : Nat) : Int × Int × Int := (((k0 + j * 3 : Nat) : Int), ((k0 + j * 3 : Nat) : Int) + 1, ((k0 + j * 3 : Nat) : Int) + 1 + 1)
def mkMeet (k0 m : Nat) : List (Int × Int × Int) := (List.range m).map (mkAtMeet k0)
theorem mkMeet_len (k0 m : Nat) : (mkMeet k0 m).length = m := by simp [mkMeet]
theorem mkMeet_get (k0 m i : Nat) (h : i < m) : (mkMeet k0 m)[i]? = some (mkAtMeet k0 i) := by simp [mkMeet, h]
def MarkMeetRel (B : Nat) (A : Option Addr) (m c k0 : Nat) (w : World) (kk i : Value) (wr : World) : Prop :=
  ∃ (j : Nat) (L : List (Int × Int × Int)), j ≤ m ∧ i = .int .i64 j ∧ kk = .int .i64 (k0 + j * 3 : Nat) ∧ L.length = m ∧ FillE (fun i => some (mkAtMeet k0 i)) j L ∧ OwnE 3 encMeet wr B 93 (.slice A m c) L ∧ w.grownBy wr (Value.ownBlock (.slice A m c))
set_option maxRecDepth 100000 in
theorem markMeet_any (A : Option Addr) (m c k0 B : Nat) (l : List (Int × Int × Int)) (w : World) (hm : l.length = m) (ho : OwnE 3 encMeet w B 93 (.slice A m c) l) (hl : m ≤ 1099511627776) (hk : k0 ≤ 1099511627776) :
    Calls Tryz.prog 40 #[.slice A m c, .int .i64 k0] w fun e w' => e = .returned (.int .i64 (k0 + m * 3 : Nat)) ∧ OwnE 3 encMeet w' B 93 (.slice A m c) (mkMeet k0 m) ∧ w.grownBy w' (Value.ownBlock (.slice A m c)) := by
  have HO := Lib.hid ho; clear ho
  have HN := Lib.hid hm; clear hm
  go_enter Tryz.func40, Tryz.ntmps40
  go_wp2
  go_loopw [1, 5] (fun kk i wr => MarkMeetRel B A m c k0 w kk i wr) (fun _ i _ => m - (intOf i).toNat)
  case atStart => exact ⟨0, l, Nat.zero_le _, rfl, by go_num, HN.out, FillE.zero _ _, HO.out, World.grownBy.refl _ _⟩
  case round =>
    obtain ⟨j, L, hj, rfl, rfl, hL, hf, ho, hg⟩ := hrel
    clear HO HN
    by_cases hlt : j < m
    · obtain ⟨g, rfl, hB, -, hr⟩ := ho.row (by omega)
      obtain ⟨⟨y0, y1, y2⟩, hy⟩ : ∃ y, L[j]? = some y := ⟨_, List.getElem?_eq_getElem (by omega)⟩
      obtain ⟨c0, c1, c2⟩ := rowCellsMeet hr hy
      obtain ⟨f0, f1, f2⟩ := rowFrozenMeet hr j
      have HF := Lib.hid hf; clear hf
      have HR := Lib.hid hr; clear hr
      have HL := Lib.hid hL; clear hL
      have HG := Lib.hid hg; clear hg
      clear hy ho
      obtain ⟨K, hK⟩ : ∃ K : Int, ((k0 + j * 3 : Nat) : Int) = K := ⟨_, rfl⟩
      have hK0 : 0 ≤ K ∧ K ≤ 6597069766656 := by omega
      have hw1 : IntKind.i64.wrap (K + 1) = K + 1 := IntWalk.i64_in _ (by omega)
      have hw2 : IntKind.i64.wrap (K + 1 + 1) = K + 1 + 1 := IntWalk.i64_in _ (by omega)
      have hw3 : IntKind.i64.wrap (K + 1 + 1 + 1) = K + 1 + 1 + 1 := IntWalk.i64_in _ (by omega)
      have HA : Hid (mkAtMeet k0 j = (K, K + 1, K + 1 + 1)) := Lib.hid (by rw [← hK]; rfl)
      have HK : Hid (K + 3 = ((k0 + (j + 1) * 3 : Nat) : Int)) := Lib.hid (by omega)
      rw [hK]
      clear hK hK0
      go_wp2
      go_roundw
      case rel =>
        have h2 := (rowMeet_set HR.out (by rw [HL.out]; exact hlt) (K) (K + 1) (K + 1 + 1)).own elMeet hB
        rw [List.length_set, HL.out] at h2
        exact ⟨j + 1, _, by omega, by go_num, by rw [← HK.out]; go_num, by rw [List.length_set]; exact HL.out, HF.out.set (by rw [HL.out]; exact hlt) (congrArg some HA.out), h2, (growE_setCell (growE_setCell (growE_setCell HG.out (j * 3) _) (j * 3 + 1) _) (j * 3 + 2) _)⟩
      case measure => simp [intOf]; omega
    · obtain rfl : j = m := by omega
      have HF := Lib.hid hf; clear hf
      have HO := Lib.hid ho; clear ho
      have HG := Lib.hid hg; clear hg
      have HL := Lib.hid hL; clear hL
      go_wp2
      go_ret
      have e : L = mkMeet k0 j := FillE.done (f := fun i => some (mkAtMeet k0 i)) (by rw [HL.out]; exact HF.out) (by rw [mkMeet_len]; exact HL.out.symm) (fun i hi => mkMeet_get _ _ _ (by rw [mkMeet_len] at hi; exact hi))
      have ho := HO.out
      rw [e] at ho
      exact ⟨rfl, ho, HG.out⟩
/-- The mark of a held row. -/
def MarkMeetHeld (lo hi : Nat) (A : Option Addr) (m c k0 : Nat) (w : World) (e : Ending) (w' : World) : Prop :=
  ∃ q : Nat, Hid (q = k0 + m * 3) ∧ e = .returned (.int .i64 q) ∧ HeldE 3 encMeet w' lo hi 93 (.slice A m c) (mkMeet k0 m) ∧ w.grownBy w' (Value.ownBlock (.slice A m c))
theorem markMeet_held (A : Option Addr) (m c k0 lo hi : Nat) (l : List (Int × Int × Int)) (w : World) (ho : HeldE 3 encMeet w lo hi 93 (.slice A m c) l) (hm : l.length = m) (hl : m ≤ 1099511627776) (hk : k0 ≤ 1099511627776) :
    Calls Tryz.prog 40 #[.slice A m c, .int .i64 k0] w (MarkMeetHeld lo hi A m c k0 w) :=
  (markMeet_any A m c k0 lo l w hm ho.1 hl hk).mono fun e w' ⟨h1, h2, h3⟩ => ⟨_, Lib.hid rfl, h1, ⟨h2, ho.2.1, Nat.le_trans ho.2.2 h3.size⟩, h3⟩
set_option maxRecDepth 100000 in
theorem heldMeet_any (A : Option Addr) (m c k0 B : Nat) (w : World) (hs : SeesE 3 encMeet w B A (mkMeet k0 m)) (hl : m ≤ 1099511627776) (hk : k0 ≤ 1099511627776) :
    Calls Tryz.prog 41 #[.slice A m c, .int .i64 k0] w fun e w' => e = .returned (.int .i64 (k0 + m * 3 : Nat)) ∧ w = w' := by
  have HS := Lib.hid hs; clear hs
  go_enter Tryz.func41, Tryz.ntmps41
  go_wp2
  go_loop [1, 5] (fun kk i => ∃ j : Nat, j ≤ m ∧ i = .int .i64 j ∧ kk = .int .i64 (k0 + j * 3 : Nat)) (fun _ i => m - (intOf i).toNat)
  case atStart => exact ⟨0, Nat.zero_le _, rfl, by go_num⟩
  case round =>
    obtain ⟨j, hj, rfl, rfl⟩ := hrel
    by_cases hlt : j < m
    · obtain ⟨b, off, rfl, hbl, -⟩ := HS.out j _ (mkMeet_get k0 m j hlt)
      obtain ⟨K, hK⟩ : ∃ K : Int, ((k0 + j * 3 : Nat) : Int) = K := ⟨_, rfl⟩
      have hx : (mkMeet k0 m)[j]? = some (K, K + 1, K + 1 + 1) := by rw [mkMeet_get k0 m j hlt, ← hK]; rfl
      obtain ⟨c0, c1, c2⟩ := cellsMeet HS.out hx
      have hK0 : 0 ≤ K ∧ K ≤ 6597069766656 := by omega
      have hw1 : IntKind.i64.wrap (K + 1) = K + 1 := IntWalk.i64_in _ (by omega)
      have hw2 : IntKind.i64.wrap (K + 1 + 1) = K + 1 + 1 := IntWalk.i64_in _ (by omega)
      have hw3 : IntKind.i64.wrap (K + 1 + 1 + 1) = K + 1 + 1 + 1 := IntWalk.i64_in _ (by omega)
      have HK : Hid (K + 3 = ((k0 + (j + 1) * 3 : Nat) : Int)) := Lib.hid (by omega)
      rw [hK]
      clear hK hK0 hx
      go_wp2
      go_round
      case rel => exact ⟨j + 1, by omega, by go_num, by rw [← HK.out]; go_num⟩
      case measure => simp [intOf]; omega
    · obtain rfl : j = m := by omega
      go_wp2
      go_ret
      exact ⟨rfl, rfl⟩
/-- The marks are found again: the next number. -/
theorem heldMeet_q (A : Option Addr) (m c k0 B : Nat) (w : World) (hs : SeesE 3 encMeet w B A (mkMeet k0 m)) (hl : m ≤ 1099511627776) (hk : k0 ≤ 1099511627776) :
    Calls Tryz.prog 41 #[.slice A m c, .int .i64 k0] w fun e w' => ∃ q : Nat, Hid (q = k0 + m * 3) ∧ e = .returned (.int .i64 q) ∧ w = w' :=
  (heldMeet_any A m c k0 B w hs hl hk).mono fun e w' ⟨h1, h2⟩ => ⟨_, Lib.hid rfl, h1, h2⟩
end Go.Proofs.YtbnjaaegbmhopaaGreatDoor
end
section
/- markText of the laws: a text for each int, the same each time. -/
namespace Go.Proofs.YtbnjaaegbmhopaaGreatDoor
open Go.ChangeShapes Go.WideShapes Go.ChangeAt Go.RowKit
set_option linter.unusedVariables false

def mkD (d : Nat) : UInt8 := UInt8.ofNat (48 + d)
theorem mkD_int (d : Nat) (h : d < 10) : (Value.int .u8 ((mkD d).toNat : Int)) = .int .u8 (48 + (d : Int)) := by
  unfold mkD
  congr 1
  have : (UInt8.ofNat (48 + d)).toNat = 48 + d := by simp [UInt8.toNat_ofNat]; omega
  omega
def mkG (x : Nat) (l : List UInt8) : List UInt8 := if h : x = 0 then l else mkG (x / 10) (mkD (x % 10) :: l)
termination_by x
decreasing_by omega
theorem mkG_zero (l : List UInt8) : mkG 0 l = l := by unfold mkG; simp
theorem mkG_step (x : Nat) (l : List UInt8) (h : x ≠ 0) : mkG x l = mkG (x / 10) (mkD (x % 10) :: l) := by rw [mkG]; simp [h]
theorem mkG_len (x : Nat) : ∀ l, l.length ≤ (mkG x l).length ∧ (mkG x l).length ≤ x / 10 + 1 + l.length ∧ (x ≠ 0 → l.length + 1 ≤ (mkG x l).length) := by
  induction x using Nat.strongRecOn with
  | _ x ih =>
    intro l
    by_cases h : x = 0
    · subst h; rw [mkG_zero]; exact ⟨Nat.le_refl _, by omega, by omega⟩
    · rw [mkG_step x l h]
      by_cases h1 : x / 10 = 0
      · rw [h1, mkG_zero]; simp only [List.length_cons]; exact ⟨by omega, by omega, by omega⟩
      · obtain ⟨a, b, c⟩ := ih (x / 10) (by omega) (mkD (x % 10) :: l)
        simp only [List.length_cons] at a b c
        exact ⟨by omega, by omega, fun _ => by omega⟩
theorem mkG_dig (m : Nat) : ∀ x l, x < 10 ^ m → (mkG x l).length ≤ m + l.length := by
  induction m with
  | zero => intro x l h; have : x = 0 := by simp at h; exact h
            subst this; rw [mkG_zero]; omega
  | succ m ih =>
    intro x l h
    by_cases hx : x = 0
    · subst hx; rw [mkG_zero]; omega
    · rw [mkG_step x l hx]
      have := ih (x / 10) (mkD (x % 10) :: l) (by rw [Nat.pow_succ] at h; omega)
      simp only [List.length_cons] at this
      omega
/-- The text that marks k. -/
def mkV (k : Int) : ByteArray := if k ≤ 0 then ⟨([109, 48] : List UInt8).toArray⟩ else ⟨(109 :: mkG k.toNat []).toArray⟩
theorem mk_conv (w : World) (b : Nat) (d : Nat) (z : Int) (hd : d < 10) (hz : z = 48 + (d : Int)) (hb : b = w.heap.size) :
    (convert 22 9 (.slice (some ⟨b, 0, none⟩) 1 1)).run Tryz.prog (w.alloc (.cells #[.int .u8 z] 5)) = .ok (.string ⟨[mkD d].toArray⟩) (w.alloc (.cells #[.int .u8 z] 5)) := by
  refine run_convert_bytes_back (P := Tryz.prog) _ 22 9 5 ⟨b, 0, none⟩ 1 [mkD d] Tryz.underlying22 Tryz.underlying5 Tryz.underlying9 ?_
  intro j hj
  have hj0 : j = 0 := by simp at hj; omega
  subst hj0; subst hb; subst hz
  simp only [List.getElem_cons_zero]
  rw [mkD_int d hd]
  simp [Addr.add, go_sem]
theorem mk_ret {a b : List UInt8} (h : a = b) : Ending.returned (.string ⟨a.toArray⟩) = .returned (.string ⟨b.toArray⟩) := by rw [h]

/-- The head of a round: digits l have been taken off, x is what is left. -/
def MkRel (n : Int) (B : Nat) (w : World) (v3 v4 : Value) (wr : World) : Prop :=
  ∃ x : Int, ∃ l : List UInt8, v4 = .int .i64 x ∧ v3 = .string ⟨l.toArray⟩ ∧ mkG x.toNat l = mkG n.toNat [] ∧
    0 ≤ x ∧ x ≤ 9223372036854775807 ∧ Below B w wr

set_option maxRecDepth 100000 in
theorem markText_is (n : Int) (h1 : n ≤ 9223372036854775807) (w : World) :
    Calls Tryz.prog 73 #[.int .i64 n] w fun e w' => e = .returned (.string (mkV n)) ∧ Below w.heap.size w w' := by
  by_cases hz : n ≤ 0
  · have e : mkV n = ⟨([109, 48] : List UInt8).toArray⟩ := by unfold mkV; rw [if_pos hz]
    rw [e]
    go_enter Tryz.func73, Tryz.ntmps73
    go_wp2
    go_ret
    exact ⟨rfl, Below.refl _ _⟩
  · have e : mkV n = ⟨(109 :: mkG n.toNat []).toArray⟩ := by unfold mkV; rw [if_neg hz]
    rw [e]
    have hN := mkG_dig 19 n.toNat [] (by omega)
    simp only [List.length_nil] at hN
    go_enter Tryz.func73, Tryz.ntmps73
    go_wp2
    go_loopw [0, 3] (fun v4 v3 wr => MkRel n w.heap.size w v3 v4 wr) (fun v4 _ _ => (intOf v4).natAbs)
    case atStart => exact ⟨n, [], rfl, rfl, rfl, by omega, h1, Below.refl _ _⟩
    case round =>
      obtain ⟨x, l, rfl, rfl, hd, hx0, hx1, hb⟩ := hrel
      have hg := mkG_len x.toNat l
      rw [hd] at hg
      obtain ⟨g1, _, g3⟩ := hg
      by_cases hx : x = 0
      · subst hx
        have hadd : ∀ W : World, (Op.stringOp .add ⟨#[109]⟩ ⟨l.toArray⟩).run Tryz.prog W = .ok (.string ⟨([109] ++ l).toArray⟩) W := fun W => run_string_add_lists (P := Tryz.prog) W [109] l (by decide) (by omega)
        have e2 : l = mkG n.toNat [] := by rw [← hd]; exact (mkG_zero l).symm
        have HE := Lib.hid e2; clear e2
        clear hd
        go_wp2
        go_ret
        exact ⟨mk_ret (by rw [← HE.out]), hb⟩
      · have hs : mkG (x / 10).toNat ([mkD (x.toNat % 10)] ++ l) = mkG n.toNat [] := by
          rw [← hd, mkG_step x.toNat l (by omega), show (x / 10).toNat = x.toNat / 10 by omega]; rfl
        have HS := Lib.hid hs; clear hs hd
        have hl : l.length ≤ 100 := by omega
        have hadd : ∀ d : Nat, ∀ W : World, (Op.stringOp .add ⟨[mkD d].toArray⟩ ⟨l.toArray⟩).run Tryz.prog W = .ok (.string ⟨([mkD d] ++ l).toArray⟩) W := fun d W => run_string_add_lists (P := Tryz.prog) W [mkD d] l (by simp) (by omega)
        have hcv := mk_conv wr wr.heap.size (x.toNat % 10) (48 + x % 10) (Nat.mod_lt _ (by decide)) (by omega) rfl
        go_wp2
        go_roundw
        case rel => exact ⟨x / 10, _, rfl, rfl, HS.out, by omega, by omega, hb.alloc hb.size _⟩
        case measure => simp only [intOf]; omega
end Go.Proofs.YtbnjaaegbmhopaaGreatDoor
end
section
/- Marks over features: what they lay, and what they leave. -/
namespace Go.Proofs.YtbnjaaegbmhopaaGreatDoor
open Go.ChangeShapes Go.WideShapes Go.ChangeAt Go.RowKit
set_option linter.unusedVariables false

/-- What a mark lays over one feature, over a list, and the next number. -/
def mkF1 (k : Nat) (f : Feat) : Feat := ((k : Int), (k : Int) + 1, (k : Int) + 2, mkV ((k : Int) + 3), mkPoint (k + 4) f.2.2.2.2.length)
def mkFn (k : Nat) (f : Feat) : Nat := k + 4 + f.2.2.2.2.length * 2
def mkFs : Nat → List Feat → List Feat
  | _, [] => []
  | k, f :: t => mkF1 k f :: mkFs (mkFn k f) t
def mkFq : Nat → List Feat → Nat
  | k, [] => k
  | k, f :: t => mkFq (mkFn k f) t
theorem mkFs_len (l : List Feat) : ∀ k, (mkFs k l).length = l.length := by
  induction l with
  | nil => intro k; rfl
  | cons f t ih => intro k; simp [mkFs, ih]
theorem mkFq_app (l l2 : List Feat) : ∀ k, mkFq k (l ++ l2) = mkFq (mkFq k l) l2 := by
  induction l with
  | nil => intro k; rfl
  | cons f t ih => intro k; simp [mkFq, ih]
theorem mkFs_app (l l2 : List Feat) : ∀ k, mkFs k (l ++ l2) = mkFs k l ++ mkFs (mkFq k l) l2 := by
  induction l with
  | nil => intro k; rfl
  | cons f t ih => intro k; simp [mkFs, mkFq, ih]
theorem mkFq_le (l : List Feat) : ∀ k, k ≤ mkFq k l := by
  induction l with
  | nil => intro k; exact Nat.le_refl _
  | cons f t ih => intro k; have := ih (mkFn k f); simp only [mkFq]; unfold mkFn at this ⊢; omega
theorem take_succF {l : List Feat} {j : Nat} {f : Feat} (h : l[j]? = some f) : l.take (j + 1) = l.take j ++ [f] := by
  rw [List.take_add_one, h]; rfl
theorem mkFq_succ {l : List Feat} {j : Nat} {f : Feat} (k : Nat) (h : l[j]? = some f) : mkFq k (l.take (j + 1)) = mkFn (mkFq k (l.take j)) f := by
  rw [take_succF h, mkFq_app]; rfl
theorem mkFq_take (l : List Feat) (k j : Nat) : mkFq k (l.take j) ≤ mkFq k l := by
  have := mkFq_app (l.take j) (l.drop j) k
  rw [List.take_append_drop] at this
  rw [this]
  exact mkFq_le _ _
/-- The list in the middle of a walk. -/
def mkMid (k j : Nat) (l : List Feat) : List Feat := mkFs k (l.take j) ++ l.drop j
theorem mkMid_zero (k : Nat) (l : List Feat) : mkMid k 0 l = l := rfl
theorem mkMid_all (k : Nat) (l : List Feat) : mkMid k l.length l = mkFs k l := by simp [mkMid]
theorem mkMid_at {k j : Nat} {l : List Feat} {f : Feat} (h : l[j]? = some f) : (mkMid k j l)[j]? = some f := by
  have hj := (List.getElem?_eq_some_iff.1 h).1
  unfold mkMid
  rw [List.getElem?_append_right (by rw [mkFs_len, List.length_take]; omega), mkFs_len, List.length_take, List.getElem?_drop]
  rw [show j + (j - min j l.length) = j by omega]; exact h
theorem mkMid_succ {k j : Nat} {l : List Feat} {f : Feat} (h : l[j]? = some f) : mkMid k (j + 1) l = (mkMid k j l).set j (mkF1 (mkFq k (l.take j)) f) := by
  have hj := (List.getElem?_eq_some_iff.1 h).1
  have hd : l.drop j = f :: l.drop (j + 1) := by
    rw [List.drop_eq_getElem_cons hj]
    congr 1
    exact (List.getElem?_eq_some_iff.1 h).2
  unfold mkMid
  rw [take_succF h, mkFs_app, hd, List.set_append_right _ _ (by rw [mkFs_len, List.length_take]; omega), mkFs_len, List.length_take, show j - min j l.length = 0 by omega]
  simp [mkFs]
theorem mkFs_get {l : List Feat} {j : Nat} {f : Feat} (k : Nat) (h : l[j]? = some f) : (mkFs k l)[j]? = some (mkF1 (mkFq k (l.take j)) f) := by
  have hj := (List.getElem?_eq_some_iff.1 h).1
  have e : l = l.take j ++ f :: l.drop (j + 1) := by
    have hd : l.drop j = f :: l.drop (j + 1) := by
      rw [List.drop_eq_getElem_cons hj]; congr 1; exact (List.getElem?_eq_some_iff.1 h).2
    rw [← hd, List.take_append_drop]
  have e2 := congrArg (mkFs k) e
  rw [mkFs_app] at e2
  rw [e2, List.getElem?_append_right (by rw [mkFs_len, List.length_take]; omega), mkFs_len, List.length_take, show j - min j l.length = 0 by omega]
  rfl

/-- Nothing outside the blocks from lo to hi has changed. -/
structure Within (lo hi : Nat) (w w' : World) : Prop where
  os : w'.os = w.os
  tape : w'.tape = w.tape
  output : w'.output = w.output
  size : w.heap.size ≤ w'.heap.size
  block : ∀ k, k < w.heap.size → (k < lo ∨ hi ≤ k) → w'.heap[k]? = w.heap[k]?
section
variable {w w' w'' w0 : World} {lo hi lo' hi' : Nat} {v : Value} {l : List Feat} {r : Option Nat}
theorem Within.refl (lo hi : Nat) (w : World) : Within lo hi w w := ⟨rfl, rfl, rfl, Nat.le_refl _, fun _ _ _ => rfl⟩
theorem Within.trans (h : Within lo hi w w') (k : Within lo hi w' w'') : Within lo hi w w'' :=
  ⟨k.os.trans h.os, k.tape.trans h.tape, k.output.trans h.output, Nat.le_trans h.size k.size, fun i hi' ho => (k.block i (Nat.lt_of_lt_of_le hi' h.size) ho).trans (h.block i hi' ho)⟩
theorem Within.of (lo hi : Nat) (h : Below w.heap.size w w') : Within lo hi w w' := ⟨h.os, h.tape, h.output, h.size, fun k hk _ => h.block k hk⟩
theorem Within.grown (h : w.grownBy w' r) (hr : ∀ g, r = some g → lo ≤ g ∧ g < hi) : Within lo hi w w' :=
  ⟨h.os, h.tape, h.output, h.size, fun k hk ho => h.block k hk fun e => by have := hr k e.symm; omega⟩
theorem Within.cell {g : Nat} (h1 : lo ≤ g) (h2 : g < hi) (i : Nat) (u : Value) : Within lo hi w (w.setCell ⟨g, i, none⟩ u) :=
  Within.grown (growE_setCell (World.grownBy.refl w (some g)) i u) fun g' e => by simp only [Option.some.injEq] at e; subst e; exact ⟨h1, h2⟩
theorem Within.below {B : Nat} (h : Within lo hi w w') (hB : B ≤ lo) (hw : B ≤ w.heap.size) : Below B w w' := ⟨h.os, h.tape, h.output, h.size, fun k hk => h.block k (Nat.lt_of_lt_of_le hk hw) (.inl (Nat.lt_of_lt_of_le hk hB))⟩
theorem OwnE.within {α : Type} {n : Nat} {enc : α → List Value} {B : Nat} {e : TypeId} {L : List α} (h : OwnE n enc w B e v L) (hw : Within lo hi w w') (hv : ∀ g, v.ownBlock = some g → g < lo ∨ hi ≤ g) : OwnE n enc w' B e v L := by
  have hlt := h.lt
  refine ⟨h.1, ?_⟩
  rcases h.2 with hn | ⟨g, cap, cur, rfl, hB, hg, rest⟩
  · exact .inl hn
  · exact .inr ⟨g, cap, cur, rfl, hB, (hw.block g (hlt g rfl).2 (hv g rfl)).trans hg, rest⟩
theorem HeldE.within {α : Type} {n : Nat} {enc : α → List Value} {e : TypeId} {L : List α} (h : HeldE n enc w lo' hi' e v L) (hd : hi' ≤ lo ∨ hi ≤ lo') (hw : Within lo hi w w') : HeldE n enc w' lo' hi' e v L :=
  ⟨h.1.within hw fun g hg => by have := (h.1.lt g hg).1; have := h.2.1 g hg; omega, h.2.1, Nat.le_trans h.2.2 hw.size⟩

/-- A slice of features that the call holds: all its blocks lie from lo to hi. -/
def HeldF (w : World) (lo hi : Nat) (v : Value) (l : List Feat) : Prop :=
  ∃ xs, OwnE 5 encF w lo 41 v xs ∧ RowsF w lo v xs l ∧ (∀ g, v.ownBlock = some g → g < hi) ∧ (∀ (j : Nat) x b, xs[j]? = some x → (slF x).ownBlock = some b → b < hi) ∧ hi ≤ w.heap.size
theorem HeldF.own (h : HeldF w lo hi v l) : OwnF w lo v l := by obtain ⟨xs, h1, h2, _⟩ := h; exact ⟨xs, h1, h2⟩
theorem OwnF.held (h : OwnF w lo v l) : HeldF w lo w.heap.size v l := by
  obtain ⟨xs, h1, h2⟩ := h
  refine ⟨xs, h1, h2, fun g hg => (h1.lt g hg).2, fun j x b hx hb => ?_, Nat.le_refl _⟩
  obtain ⟨f, hf⟩ : ∃ f, l[j]? = some f := ⟨_, List.getElem?_eq_getElem (by rw [← h2.1]; exact (List.getElem?_eq_some_iff.1 hx).1)⟩
  exact ((h2.2.2 j x f hx hf).2.1.lt b hb).2
theorem HeldF.belowAll (h : HeldF w lo hi v l) (hb : Below w.heap.size w w') : HeldF w' lo hi v l := by
  obtain ⟨xs, h1, h2, h3, h4, h5⟩ := h
  exact ⟨xs, h1.belowAll hb, h2.belowAll hb, h3, h4, Nat.le_trans h5 hb.size⟩
theorem HeldF.within (h : HeldF w lo' hi' v l) (hd : hi' ≤ lo ∨ hi ≤ lo') (hw : Within lo hi w w') : HeldF w' lo' hi' v l := by
  obtain ⟨xs, h1, h2, h3, h4, h5⟩ := h
  refine ⟨xs, h1.within hw fun g hg => by have := (h1.lt g hg).1; have := h3 g hg; omega, ⟨h2.1, h2.2.1, fun j x f hx hf => ?_⟩, h3, h4, Nat.le_trans h5 hw.size⟩
  obtain ⟨a, b, c⟩ := h2.2.2 j x f hx hf
  exact ⟨a, b.within hw fun g hg => by have := (b.lt g hg).1; have := h4 j x g hx hg; omega, c⟩
theorem HeldF.sees {A : Option Addr} {m c : Nat} (h : HeldF w lo hi (.slice A m c) l) : SeesF w w.heap.size A l := h.own.sees
/-- One feature of the rows is marked. -/
theorem RowsF.mark {xs : List FCel} {j : Nat} {x x' : FCel} {f f' : Feat} (h : RowsF w lo v xs l) (hx : xs[j]? = some x) (hf : l[j]? = some f) (hg : w.grownBy w' (slF x).ownBlock)
    (hs : slF x' = slF x) (hS : Shal x' f') (ho : OwnE 2 encPoint w' lo 33 (slF x) f'.2.2.2.2) : RowsF w' lo v (xs.set j x') (l.set j f') := by
  have hjx := (List.getElem?_eq_some_iff.1 hx).1
  have hjl := (List.getElem?_eq_some_iff.1 hf).1
  have key : ∀ (i : Nat) y, (xs.set j x')[i]? = some y → ∃ y0, xs[i]? = some y0 ∧ slF y = slF y0 := fun i y hy => by
    by_cases hij : i = j
    · subst hij
      rw [List.getElem?_set_self hjx] at hy
      obtain rfl : x' = y := by simpa using hy
      exact ⟨x, hx, hs⟩
    · rw [List.getElem?_set_ne (fun e => hij e.symm)] at hy
      exact ⟨y, hy, rfl⟩
  refine ⟨by simp [h.1], fun i k y z b hik hy hz hb => ?_, fun i y g hy hgg => ?_⟩
  · obtain ⟨y0, hy0, e1⟩ := key i y hy
    obtain ⟨z0, hz0, e2⟩ := key k z hz
    rw [e1] at hb
    rw [e2]
    exact h.2.1 i k y0 z0 b hik hy0 hz0 hb
  · by_cases hij : i = j
    · subst hij
      rw [List.getElem?_set_self hjx] at hy
      rw [List.getElem?_set_self hjl] at hgg
      obtain rfl : x' = y := by simpa using hy
      obtain rfl : f' = g := by simpa using hgg
      refine ⟨hS, hs ▸ ho, fun b hb => ?_⟩
      rw [hs] at hb
      exact (h.2.2 i x f hx hf).2.2 b hb
    · rw [List.getElem?_set_ne (fun e => hij e.symm)] at hy hgg
      obtain ⟨a, b, c⟩ := h.2.2 i y g hy hgg
      refine ⟨a, b.kept hg ?_, c⟩
      match hv : (slF y).ownBlock with
      | none => exact .inl rfl
      | some p => exact .inr fun e => h.2.1 i j y x p hij hy hx hv (e ▸ rfl)
end
end Go.Proofs.YtbnjaaegbmhopaaGreatDoor
end
section
/- markFeatureS and heldFeatureS of the laws. -/
namespace Go.Proofs.YtbnjaaegbmhopaaGreatDoor
open Go.ChangeShapes Go.WideShapes Go.ChangeAt Go.RowKit
set_option linter.unusedVariables false

theorem markPoint_z (A : Option Addr) (m c k0 B : Nat) (z : Int) (hz : ((k0 : Nat) : Int) = z) (l : List (Int × Int)) (w : World) (hm : l.length = m) (ho : OwnE 2 encPoint w B 33 (.slice A m c) l) (hl : m ≤ 1099511627776) (hk : k0 ≤ 1099511627776) :
    Calls Tryz.prog 69 #[.slice A m c, .int .i64 z] w fun e w' => ∃ q : Nat, Hid (q = k0 + m * 2) ∧ e = .returned (.int .i64 q) ∧ OwnE 2 encPoint w' B 33 (.slice A m c) (mkPoint k0 m) ∧ w.grownBy w' (Value.ownBlock (.slice A m c)) := by
  subst hz
  exact (markPoint_any A m c k0 B l w hm ho hl hk).mono fun e w' ⟨a, b, d⟩ => ⟨_, Lib.hid rfl, a, b, d⟩
section
variable {w : World} {g cc : Nat} {e : TypeId} {L : List FCel} {j : Nat}
theorem rowF_set3 (h : RowE 5 encF w g e cc L) {y : FCel} (hx : L[j]? = some y) (a k r : Int) :
    RowE 5 encF (((w.setCell ⟨g, j * 5, none⟩ (.int .i64 a)).setCell ⟨g, j * 5 + 1, none⟩ (.int .i64 k)).setCell ⟨g, j * 5 + 2, none⟩ (.int .i64 r)) g e cc (L.set j (a, k, r, y.2.2.2)) := by
  obtain ⟨y0, y1, y2, y3, y4, y5, y6⟩ := y
  have hj := (List.getElem?_eq_some_iff.1 hx).1
  have h1 := h.put elF (k := 0) (x' := (a, y1, y2, y3, y4, y5, y6)) (v := .int .i64 a) hx (by decide) rfl
  have h2 := h1.put elF (k := 1) (x' := (a, k, y2, y3, y4, y5, y6)) (v := .int .i64 k) (List.getElem?_set_self (by simpa using hj)) (by decide) rfl
  have h3 := h2.put elF (k := 2) (x' := (a, k, r, y3, y4, y5, y6)) (v := .int .i64 r) (List.getElem?_set_self (by simpa using hj)) (by decide) rfl
  simp only [List.set_set, Nat.add_zero] at h3
  exact h3
theorem rowF_set4 (h : RowE 5 encF w g e cc L) {y : FCel} (hx : L[j]? = some y) (s : ByteArray) :
    RowE 5 encF (w.setCell ⟨g, j * 5 + 3, none⟩ (.string s)) g e cc (L.set j (y.1, y.2.1, y.2.2.1, s, y.2.2.2.2)) := by
  obtain ⟨y0, y1, y2, y3, y4, y5, y6⟩ := y
  exact h.put elF (k := 3) (x' := (y0, y1, y2, s, y4, y5, y6)) (v := .string s) hx (by decide) rfl
end
/-- The marks of features are laid. -/
def MarkFHeld (lo hi : Nat) (A : Option Addr) (m c k0 : Nat) (l : List Feat) (w : World) (e : Ending) (w' : World) : Prop :=
  ∃ q : Nat, Hid (q = mkFq k0 l) ∧ e = .returned (.int .i64 q) ∧ HeldF w' lo hi (.slice A m c) (mkFs k0 l) ∧ Within lo hi w w'
set_option maxRecDepth 100000 in
set_option maxHeartbeats 1000000 in
theorem markFeatureS_held (A : Option Addr) (m c k0 lo hi : Nat) (l : List Feat) (w : World) (ho : HeldF w lo hi (.slice A m c) l) (hm : l.length = m) (hl : m ≤ 1099511627776) (hk : mkFq k0 l ≤ 1099511627776) :
    Calls Tryz.prog 39 #[.slice A m c, .int .i64 k0] w (MarkFHeld lo hi A m c k0 l w) := by
  have HO := Lib.hid ho; clear ho
  have HN := Lib.hid hm; clear hm
  have HK0 := Lib.hid hk; clear hk
  go_enter Tryz.func39, Tryz.ntmps39
  go_wp2
  go_loopw [1, 5] (fun kk i wr => ∃ j : Nat, j ≤ m ∧ i = .int .i64 j ∧ kk = .int .i64 (mkFq k0 (l.take j) : Nat) ∧ Hid (HeldF wr lo hi (.slice A m c) (mkMid k0 j l)) ∧ Hid (Within lo hi w wr)) (fun _ i _ => m - (intOf i).toNat)
  case atStart => exact ⟨0, Nat.zero_le _, rfl, rfl, HO, Lib.hid (Within.refl _ _ _)⟩
  case round =>
    obtain ⟨j, hj, rfl, rfl, HH, HW⟩ := hrel
    clear HO
    by_cases hlt : j < m
    · obtain ⟨f, hf⟩ : ∃ f, l[j]? = some f := ⟨_, List.getElem?_eq_getElem (by rw [HN.out]; exact hlt)⟩
      obtain ⟨xs, h1, h2, h3, h4, h5⟩ := HH.out
      have hmid := mkMid_at (k := k0) hf
      have hxl : j < xs.length := by rw [h2.1]; exact (List.getElem?_eq_some_iff.1 hmid).1
      obtain ⟨g, rfl, hB, hml, hr⟩ := h1.row (by omega)
      obtain ⟨y, hy⟩ : ∃ y, xs[j]? = some y := ⟨_, List.getElem?_eq_getElem hxl⟩
      obtain ⟨hS, hoP, hne⟩ := h2.2.2 j y f hy hmid
      have hgh := h3 g rfl
      have hph := fun b hb => h4 j y b hy hb
      obtain ⟨y0, y1, y2, y3, y4, y5, y6⟩ := y
      have hcap := own_caps hoP
      obtain ⟨c0, c1, c2, c3, c4⟩ := rowF_cells hr hy
      obtain ⟨f0, f1, f2, f3, f4⟩ := rowF_frz hr j
      have HR3 := fun a k r => rowF_set3 hr hy a k r
      have HX := Lib.hid (And.intro h1 (And.intro h2 (And.intro hS (And.intro hoP (And.intro h3 (And.intro h4 h5))))))
      have HY := Lib.hid hy
      have HF := Lib.hid hf
      have HM := Lib.hid hmid
      have HCap := Lib.hid hcap
      have HNe := Lib.hid hne
      have HPh := Lib.hid hph
      have hR3 := Lib.hid HR3
      have HML := Lib.hid hml
      have HXL := Lib.hid hxl
      have hkq : mkFn (mkFq k0 (l.take j)) f ≤ 1099511627776 := by rw [← mkFq_succ k0 hf]; exact Nat.le_trans (mkFq_take l k0 (j + 1)) HK0.out
      have HKQ := Lib.hid hkq
      obtain ⟨Kn, hKn⟩ : ∃ Kn : Nat, mkFq k0 (l.take j) = Kn := ⟨_, rfl⟩
      have HKn := Lib.hid hKn
      rw [hKn] at hkq ⊢
      obtain ⟨K, hK⟩ : ∃ K : Int, ((Kn : Nat) : Int) = K := ⟨_, rfl⟩
      obtain ⟨P, hP⟩ : ∃ P : Int, ((Kn + 4 : Nat) : Int) = P := ⟨_, rfl⟩
      have hK0 : 0 ≤ K ∧ K ≤ 1099511627776 ∧ Kn + 4 ≤ 1099511627776 ∧ K + 1 + 1 + 1 + 1 = P := by unfold mkFn at hkq; omega
      have hw1 : IntKind.i64.wrap (K + 1) = K + 1 := IntWalk.i64_in _ (by omega)
      have hw2 : IntKind.i64.wrap (K + 1 + 1) = K + 1 + 1 := IntWalk.i64_in _ (by omega)
      have hw3 : IntKind.i64.wrap (K + 1 + 1 + 1) = K + 1 + 1 + 1 := IntWalk.i64_in _ (by omega)
      have hw4 : IntKind.i64.wrap (K + 1 + 1 + 1 + 1) = P := (IntWalk.i64_in _ (by omega)).trans hK0.2.2.2
      have hk3 : K + 1 + 1 + 1 ≤ 9223372036854775807 := by omega
      have HP := Lib.hid hP
      have HK := Lib.hid hK
      have HK4 := Lib.hid hK0
      rw [hK]
      clear hK hP hK0 hKn hkq h1 h2 h3 h4 h5 hmid hS hoP hne hph hcap hy hf hml hxl hr HR3
      go_wp2_with fail
      refine (markText_is (K + 1 + 1 + 1) hk3 _).mono ?_
      rintro e w1 ⟨rfl, hb⟩
      obtain ⟨h1, h2, hS, hoP, h3, h4, h5⟩ := HX.out
      have hr3 := hR3.out K (K + 1) (K + 1 + 1)
      have hlt3 := hr3.lt
      have hr4 := hr3.below hb hlt3
      have hy4 : (xs.set j (K, K + 1, K + 1 + 1, y3, y4, y5, y6))[j]? = some (K, K + 1, K + 1 + 1, y3, y4, y5, y6) := List.getElem?_set_self HXL.out
      have hr5 := rowF_set4 hr4 hy4 (mkV (K + 1 + 1 + 1))
      rw [List.set_set] at hr5
      have d3 : w1.cell? ⟨g, j * 5 + 3, none⟩ = some (.string y3) := (rowF_cells hr4 hy4).2.2.2.1
      have d4 : w1.cell? ⟨g, j * 5 + 4, none⟩ = some (.slice y4 y5 y6) := (rowF_cells hr4 hy4).2.2.2.2
      obtain ⟨e0, e1, e2, e3, e4⟩ := rowF_frz hr4 j
      have hv : (Value.slice (some ⟨g, 0, none⟩) m c).ownBlock = some g := rfl
      have hng : (slF (y0, y1, y2, y3, y4, y5, y6)).ownBlock ≠ some g := fun e => HNe.out g e hv
      have hP5 := (((((hoP.putN hng (j * 5) (.int .i64 K)).putN hng (j * 5 + 1) (.int .i64 (K + 1))).putN hng (j * 5 + 2) (.int .i64 (K + 1 + 1))).belowAll hb).putN hng (j * 5 + 3) (.string (mkV (K + 1 + 1 + 1))))
      have hQ5 := (((((h2.putN hv (j * 5) (.int .i64 K)).putN hv (j * 5 + 1) (.int .i64 (K + 1))).putN hv (j * 5 + 2) (.int .i64 (K + 1 + 1))).belowAll hb).putN hv (j * 5 + 3) (.string (mkV (K + 1 + 1 + 1))))
      have hW5 := ((((HW.out.trans (Within.cell hB hgh (j * 5) (.int .i64 K))).trans (Within.cell hB hgh (j * 5 + 1) (.int .i64 (K + 1)))).trans (Within.cell hB hgh (j * 5 + 2) (.int .i64 (K + 1 + 1)))).trans (Within.of lo hi hb)).trans (Within.cell hB hgh (j * 5 + 3) (.string (mkV (K + 1 + 1 + 1))))
      have hsz5 : hi ≤ (w1.setCell ⟨g, j * 5 + 3, none⟩ (.string (mkV (K + 1 + 1 + 1)))).heap.size := by
        have := hb.size
        simp [World.setCell] at this ⊢
        omega
      have HR5 := Lib.hid hr5
      have HP5 := Lib.hid hP5
      have HQ5 := Lib.hid hQ5
      have HW5 := Lib.hid hW5
      have HZ5 := Lib.hid hsz5
      clear h1 h2 hS hoP h3 h4 h5 hr3 hlt3 hr4 hy4 hr5 hP5 hQ5 hW5 hsz5 hv hng c0 c1 c2 c3 c4 f0 f1 f2 f3 f4 hb hw1 hw2 hw3 hk3
      go_wp2_with fail
      refine (markPoint_z y4 y5 y6 (Kn + 4) lo P HP.out f.2.2.2.2 _ HCap.out.1.symm HP5.out (by have := HKQ.out; have := HKn.out; have := HCap.out.1; unfold mkFn at *; omega) HK4.out.2.2.1).mono ?_
      rintro e w3 ⟨q, hq, rfl, ho3, hg3⟩
      have HQ := hq
      have HO3 := Lib.hid ho3
      have HG3 := Lib.hid hg3
      clear hq ho3 hg3
      go_wp2
      obtain ⟨h1, h2, hS, hoP, h3, h4, h5⟩ := HX.out
      have hlen : (xs.set j (K, K + 1, K + 1 + 1, mkV (K + 1 + 1 + 1), y4, y5, y6)).length = m := by rw [List.length_set]; exact HML.out.symm
      have ho := HO3.out
      rw [show mkPoint (Kn + 4) y5 = mkPoint (Kn + 4) f.2.2.2.2.length by rw [HCap.out.1]] at ho
      have hrow := (HR5.out.own elF hB).kept HG3.out (.inr fun e => HNe.out g e.symm rfl)
      rw [hlen] at hrow
      have hmk := HQ5.out.mark HY.out HM.out HG3.out (x' := (K, K + 1, K + 1 + 1, mkV (K + 1 + 1 + 1), y4, y5, y6)) (f' := mkF1 Kn f) rfl
        ⟨HK.out.symm, by rw [← HK.out]; rfl, by show K + 1 + 1 = (Kn : Int) + 2; rw [HK.out]; omega, by show mkV (K + 1 + 1 + 1) = mkV ((Kn : Int) + 3); rw [HK.out]; congr 1; omega⟩ ho
      have hmid2 := mkMid_succ (k := k0) HF.out
      rw [HKn.out] at hmid2
      refine ⟨⟨j + 1, by omega, by go_num, ?_, Lib.hid ⟨_, hrow, by rw [hmid2]; exact hmk, h3, fun i x b hx hb => ?_, Nat.le_trans HZ5.out HG3.out.size⟩, Lib.hid (HW5.out.trans (Within.grown HG3.out fun b hb => ⟨(hoP.lt b hb).1, HPh.out b hb⟩))⟩, by simp only [intOf]; omega⟩
      · rw [mkFq_succ k0 HF.out, HKn.out, HQ.out, HCap.out.1]; rfl
      · by_cases hij : i = j
        · subst hij
          rw [List.getElem?_set_self HXL.out] at hx
          simp only [Option.some.injEq] at hx
          subst hx
          exact HPh.out b hb
        · rw [List.getElem?_set_ne (fun e => hij e.symm)] at hx
          exact h4 i x b hx hb
    · obtain rfl : j = m := by omega
      go_wp2
      go_ret
      have e1 : l.take j = l := by rw [← HN.out]; exact List.take_length
      have e2 := HH.out
      rw [e1]
      rw [show mkMid k0 j l = mkFs k0 l by rw [← HN.out]; exact mkMid_all _ _] at e2
      exact ⟨_, Lib.hid rfl, rfl, e2, HW.out⟩
end Go.Proofs.YtbnjaaegbmhopaaGreatDoor
end
section
/- heldFeatureS of the laws: the marks are found again. -/
namespace Go.Proofs.YtbnjaaegbmhopaaGreatDoor
open Go.ChangeShapes Go.WideShapes Go.ChangeAt Go.RowKit
set_option linter.unusedVariables false

/-- The mark of one feature: its points alone. -/
def MarkF1Held (lo hi : Nat) (A : Option Addr) (m c k0 : Nat) (w : World) (e : Ending) (w' : World) : Prop :=
  ∃ q : Nat, Hid (q = k0 + m * 2) ∧ e = .returned (.int .i64 q) ∧ HeldE 2 encPoint w' lo hi 33 (.slice A m c) (mkPoint k0 m) ∧ Within lo hi w w'
set_option maxRecDepth 100000 in
theorem markFeature_held (a k r : Int) (s : ByteArray) (A : Option Addr) (m c k0 lo hi : Nat) (ps : List (Int × Int)) (w : World) (ho : HeldE 2 encPoint w lo hi 33 (.slice A m c) ps) (hm : ps.length = m) (hl : m ≤ 1099511627776) (hk : k0 ≤ 1099511627776) :
    Calls Tryz.prog 31 #[FtV a k r s A m c, .int .i64 k0] w (MarkF1Held lo hi A m c k0 w) := by
  have HV := Lib.hid (Vars.of1 w (FtC a k r s A m c) 41)
  have HO := Lib.hid (ho.belowAll HV.out.1)
  have HO0 := Lib.hid ho
  clear ho
  go_enter Tryz.func31, Tryz.ntmps31
  go_wp2_with fail
  refine (markPoint_z A m c k0 lo _ rfl ps _ hm HO.out.1 hl hk).mono ?_
  rintro e w1 ⟨q, hq, rfl, h2, h3⟩
  have HQ := hq
  have H2 := Lib.hid h2
  have H3 := Lib.hid h3
  clear hq h2 h3
  go_wp2
  go_ret
  exact ⟨q, HQ, rfl, ⟨H2.out, HO0.out.2.1, Nat.le_trans HO.out.2.2 H3.out.size⟩, (Within.of lo hi HV.out.1).trans (Within.grown H3.out fun g hg => ⟨(HO0.out.1.lt g hg).1, HO0.out.2.1 g hg⟩)⟩
end Go.Proofs.YtbnjaaegbmhopaaGreatDoor
end
section
/- Features: how much the laws weigh them; equal slices of features. -/
namespace Go.Proofs.YtbnjaaegbmhopaaGreatDoor
open Go.ChangeShapes Go.WideShapes Go.ChangeAt Go.RowKit
set_option linter.unusedVariables false

/-- What is left when a feature is weighed; negative if it is too heavy. -/
def szF (left : Int) (f : Feat) : Int := if left < (f.2.2.2.1.size : Int) then -1 else if left - f.2.2.2.1.size < (f.2.2.2.2.length : Int) then -1 else left - f.2.2.2.1.size - f.2.2.2.2.length
def szL : Int → List Feat → Int
  | left, [] => left
  | left, f :: t => if szF left f < 0 then -1 else szL (szF left f) t
theorem szF_le {left : Int} {f : Feat} (h : 0 ≤ szF left f) : szF left f ≤ left ∧ (f.2.2.2.1.size : Int) ≤ left ∧ (f.2.2.2.2.length : Int) ≤ left := by
  unfold szF at h ⊢
  split at h
  · omega
  · split at h
    · omega
    · next h1 h2 => rw [if_neg h1, if_neg h2]; omega
theorem szL_le {left : Int} {l : List Feat} (h : 0 ≤ szL left l) : szL left l ≤ left ∧ ∀ f ∈ l, (f.2.2.2.1.size : Int) ≤ left ∧ (f.2.2.2.2.length : Int) ≤ left := by
  induction l generalizing left with
  | nil => exact ⟨Int.le_refl _, fun f hf => by cases hf⟩
  | cons g t ih =>
    unfold szL at h ⊢
    split at h
    · omega
    · next hz =>
      rw [if_neg hz]
      have h1 := szF_le (left := left) (f := g) (by omega)
      obtain ⟨h2, h3⟩ := ih h
      refine ⟨by omega, fun f hf => ?_⟩
      rw [List.mem_cons] at hf
      rcases hf with rfl | hf
      · exact h1.2
      · have := h3 f hf; omega
/-- The weights of the first j are known. -/
theorem szL_take {left z : Int} {l : List Feat} {j : Nat} {f : Feat} (hf : l[j]? = some f) (h : szL left (l.take j) = z) (hz : 0 ≤ z) : szL left (l.take (j + 1)) = if szF z f < 0 then -1 else szF z f := by
  induction l generalizing left j with
  | nil => simp at hf
  | cons g t ih =>
    cases j with
    | zero =>
      simp only [List.getElem?_cons_zero, Option.some.injEq] at hf
      subst hf
      simp only [List.take_zero, szL] at h
      subst h
      simp only [List.take_succ_cons, List.take_zero, szL]
    | succ j =>
      simp only [List.take_succ_cons, szL] at h ⊢
      split at h
      · omega
      · next hn => rw [if_neg hn]; exact ih (by simpa using hf) h
theorem szL_bad {left : Int} {l : List Feat} {j : Nat} (h : szL left (l.take j) < 0) (hl : 0 ≤ left) : szL left l < 0 := by
  induction l generalizing left j with
  | nil => simp only [List.take_nil] at h; exact h
  | cons g t ih =>
    cases j with
    | zero => simp only [List.take_zero, szL] at h; omega
    | succ j =>
      simp only [List.take_succ_cons, szL] at h ⊢
      split at h
      · next hn => rw [if_pos hn]; omega
      · next hn => rw [if_neg hn]; exact ih h (by omega)
set_option maxHeartbeats 1000000 in
theorem szFeature_is (a k r : Int) (s : ByteArray) (A : Option Addr) (c : Nat) (ps : List (Int × Int)) (left z : Int) (w : World) (h0 : 0 ≤ left) (h1 : left ≤ 1048576) (hm : s.size ≤ maxLen) (hp : ps.length ≤ 9223372036854775807) (hz : szF left (a, k, r, s, ps) = z) :
    Calls Tryz.prog 25 #[FtV a k r s A ps.length c, .int .i64 left] w fun e w' => e = .returned (.int .i64 z) ∧ Below w.heap.size w w' := by
  have HV := Lib.hid (Vars.of1 w (FtC a k r s A ps.length c) 54)
  unfold maxLen at hm
  unfold szF at hz
  dsimp only at hz
  go_enter Tryz.func25, Tryz.ntmps25
  by_cases hs : left < (s.size : Int)
  · rw [if_pos hs] at hz
    subst hz
    have hs' : left - (s.size : Int) < 0 := by omega
    go_wp2
    go_ret
    exact ⟨rfl, HV.out.1⟩
  · rw [if_neg hs] at hz
    have hs' : ¬ left - (s.size : Int) < 0 := by omega
    obtain ⟨m, hm2⟩ : ∃ m, left - (s.size : Int) = m := ⟨_, rfl⟩
    rw [hm2] at hz hs'
    have hm0 : 0 ≤ m := by omega
    have hm1 : m ≤ 1048576 := by omega
    by_cases hq : m < (ps.length : Int)
    · rw [if_pos hq] at hz
      subst hz
      go_wp2_with fail
      refine (szPointS_no A ps.length c m _ hq hm0 hp).mono ?_
      rintro e w1 ⟨rfl, rfl⟩
      go_wp2
      go_ret
      exact ⟨rfl, HV.out.1⟩
    · rw [if_neg hq] at hz
      have hq' : ¬ m - (ps.length : Int) < 0 := by omega
      go_wp2_with fail
      refine (szPointS_yes A ps.length c m _ (by omega) hm1).mono ?_
      rintro e w1 ⟨rfl, rfl⟩
      go_wp2
      go_ret
      exact ⟨by rw [← hz]; rfl, HV.out.1⟩
def szS (left : Int) (l : List Feat) : Int := if left < (l.length : Int) then -1 else szL (left - l.length) l
theorem szS_ok {left : Int} {l : List Feat} (h : 0 ≤ szS left l) : (l.length : Int) ≤ left ∧ szS left l ≤ left ∧ ∀ f ∈ l, (f.2.2.2.1.size : Int) ≤ left ∧ (f.2.2.2.2.length : Int) ≤ left := by
  unfold szS at h ⊢
  split at h
  · omega
  · next hn =>
    rw [if_neg hn]
    obtain ⟨h1, h2⟩ := szL_le h
    refine ⟨by omega, by omega, fun f hf => ?_⟩
    have := h2 f hf
    omega
theorem szF_cases (left : Int) (f : Feat) : szF left f = -1 ∨ 0 ≤ szF left f := by
  unfold szF
  split
  · exact .inl rfl
  · split
    · exact .inl rfl
    · next h1 h2 => right; omega
theorem szL_neg {left : Int} {l : List Feat} (h : szL left l < 0) (hl : 0 ≤ left) : szL left l = -1 := by
  induction l generalizing left with
  | nil => simp only [szL] at h; omega
  | cons g t ih =>
    unfold szL at h ⊢
    split
    · rfl
    · next hn => rw [if_neg hn] at h; exact ih h (by omega)
/-- Names and points that a machine holds. -/
def MachF (l : List Feat) : Prop := ∀ (j : Nat) (f : Feat), l[j]? = some f → f.2.2.2.1.size ≤ maxLen ∧ f.2.2.2.2.length ≤ 9223372036854775807
set_option maxRecDepth 100000 in
set_option maxHeartbeats 1000000 in
theorem szFeatureS_is (A : Option Addr) (c : Nat) (l : List Feat) (left z : Int) (w : World) (hs : SeesF w w.heap.size A l) (h0 : 0 ≤ left) (h1 : left ≤ 1048576) (hl : l.length ≤ 9223372036854775807) (hm : MachF l) (hz : szS left l = z) :
    Calls Tryz.prog 34 #[.slice A l.length c, .int .i64 left] w fun e w' => e = .returned (.int .i64 z) ∧ Below w.heap.size w w' := by
  have HS := Lib.hid hs
  have HM := Lib.hid hm
  obtain ⟨n, hn⟩ : ∃ n, l.length = n := ⟨_, rfl⟩
  have HN := Lib.hid hn
  unfold szS at hz
  rw [hn] at hl hz ⊢
  clear hs hm hn
  go_enter Tryz.func34, Tryz.ntmps34
  by_cases hb : left < (n : Int)
  · rw [if_pos hb] at hz
    subst hz
    have hb' : left - (n : Int) < 0 := by omega
    go_wp2
    go_ret
    exact ⟨rfl, Below.refl _ _⟩
  · rw [if_neg hb] at hz
    obtain ⟨m0, hm0⟩ : ∃ m, left - (n : Int) = m := ⟨_, rfl⟩
    rw [hm0] at hz
    have HZ := Lib.hid hz
    have hp0 : 0 ≤ m0 := by omega
    have hp1 : m0 ≤ 1048576 := by omega
    have hp2 : ¬ m0 < 0 := by omega
    clear hz
    go_wp2
    go_loopw [1, 5] (fun v iv wr => ∃ (j : Nat) (m : Int), j ≤ n ∧ iv = .int .i64 j ∧ v = .int .i64 m ∧ 0 ≤ m ∧ m ≤ 1048576 ∧ Hid (szL m0 (l.take j) = m) ∧ Hid (Below w.heap.size w wr)) (fun _ iv _ => n - (intOf iv).toNat)
    case atStart => exact ⟨0, m0, Nat.zero_le _, rfl, rfl, hp0, hp1, Lib.hid rfl, Lib.hid (Below.refl _ _)⟩
    case round =>
      obtain ⟨j, m, hj, rfl, rfl, hq0, hq1, HL, HB⟩ := hrel
      by_cases hlt : j < n
      · have hji : (j : Int) < (n : Int) := by omega
        obtain ⟨⟨a, k, r, s, ps⟩, hf⟩ : ∃ f, l[j]? = some f := ⟨_, List.getElem?_eq_getElem (by rw [HN.out]; exact hlt)⟩
        obtain ⟨b, off, A', c', rfl, hbl, -, -, q0, q1, q2, q3, q4⟩ := (HS.out.below HB.out).at_ hf
        obtain ⟨g1, g2⟩ := HM.out j _ hf
        have HT := Lib.hid (szL_take hf HL.out hq0)
        clear hf
        obtain ⟨y, hy⟩ : ∃ y, szF m (a, k, r, s, ps) = y := ⟨_, rfl⟩
        have hyc := szF_cases m (a, k, r, s, ps)
        have hyl : 0 ≤ y → y ≤ m := fun h => by rw [← hy] at h ⊢; exact (szF_le h).1
        rw [hy] at HT hyc
        have HY := Lib.hid hy
        clear hy
        go_wp2_with fail
        refine (szFeature_is a k r s A' c' ps m y _ hq0 hq1 g1 g2 HY.out).mono ?_
        rintro e w1 ⟨rfl, hb1⟩
        have HB1 := Lib.hid (HB.out.trans (hb1.mono HB.out.size))
        clear hb1 q0 q1 q2 q3 q4
        rcases hyc with rfl | hy0
        · have HE : Hid (z = -1) := Lib.hid (by rw [← HZ.out]; exact szL_neg (szL_bad (j := j + 1) (by rw [HT.out]; decide) hp0) hp0)
          go_wp2
          go_ret
          exact ⟨by rw [HE.out]; rfl, HB1.out⟩
        · have hyn : ¬ y < 0 := by omega
          have hym := hyl hy0
          go_wp2
          go_roundw
          case rel => exact ⟨j + 1, y, by omega, by go_num, rfl, hy0, by omega, Lib.hid (by rw [HT.out, if_neg (by omega)]), HB1⟩
          case measure => simp [intOf]; omega
      · obtain rfl : j = n := by omega
        have hji : ¬ (j : Int) < (j : Int) := by omega
        have HE : Hid (m = z) := Lib.hid (by rw [← HL.out, ← HZ.out, List.take_of_length_le (by rw [HN.out]; exact Nat.le_refl _)])
        go_wp2
        go_ret
        exact ⟨by rw [← HE.out]; rfl, HB.out⟩
set_option maxRecDepth 100000 in
set_option maxHeartbeats 1000000 in
theorem eqFeatureS_yes (A A' : Option Addr) (c c' : Nat) (l : List Feat) (w : World) (hs : SeesF w w.heap.size A l) (hs' : SeesF w w.heap.size A' l) (hl : l.length ≤ 1099511627776) (hp : FewP l) :
    Calls Tryz.prog 38 #[.slice A l.length c, .slice A' l.length c'] w fun e w' => e = .returned (.bool true) ∧ Below w.heap.size w w' := by
  have HS := Lib.hid hs
  have HS' := Lib.hid hs'
  have HP := Lib.hid hp
  obtain ⟨n, hn⟩ : ∃ n, l.length = n := ⟨_, rfl⟩
  have HN := Lib.hid hn
  rw [hn] at hl ⊢
  clear hs hs' hp hn
  go_enter Tryz.func38, Tryz.ntmps38
  go_wp2
  go_loopw [5] (fun iv wr => ∃ j : Nat, j ≤ n ∧ iv = .int .i64 j ∧ Hid (Below w.heap.size w wr)) (fun iv _ => n - (intOf iv).toNat)
  case atStart => exact ⟨0, Nat.zero_le _, rfl, Lib.hid (Below.refl _ _)⟩
  case round =>
    obtain ⟨j, hj, rfl, HB⟩ := hrel
    by_cases hlt : j < n
    · have hji : (j : Int) < (n : Int) := by omega
      obtain ⟨⟨a, k, r, s, ps⟩, hf⟩ : ∃ f, l[j]? = some f := ⟨_, List.getElem?_eq_getElem (by rw [HN.out]; exact hlt)⟩
      obtain ⟨b, off, A1, c1, rfl, hbl, h1, -, q0, q1, q2, q3, q4⟩ := HS.out.at_ hf
      obtain ⟨b2, off2, A2, c2, rfl, hbl2, h2, -, p0, p1, p2, p3, p4⟩ := HS'.out.at_ hf
      have hpl : ps.length ≤ 1099511627776 := Nat.le_trans (HP.out j _ hf) (by decide)
      have HB0 := Lib.hid HB.out.drew
      have HQ : Hid (∀ W, Below w.heap.size w W → W.cell? ⟨b, off + j * 5, none⟩ = some (.int .i64 a) ∧ W.cell? ⟨b, off + j * 5 + 1, none⟩ = some (.int .i64 k) ∧ W.cell? ⟨b, off + j * 5 + 2, none⟩ = some (.int .i64 r) ∧ W.cell? ⟨b, off + j * 5 + 3, none⟩ = some (.string s) ∧ W.cell? ⟨b, off + j * 5 + 4, none⟩ = some (.slice A1 ps.length c1) ∧ W.cell? ⟨b2, off2 + j * 5, none⟩ = some (.int .i64 a) ∧ W.cell? ⟨b2, off2 + j * 5 + 1, none⟩ = some (.int .i64 k) ∧ W.cell? ⟨b2, off2 + j * 5 + 2, none⟩ = some (.int .i64 r) ∧ W.cell? ⟨b2, off2 + j * 5 + 3, none⟩ = some (.string s) ∧ W.cell? ⟨b2, off2 + j * 5 + 4, none⟩ = some (.slice A2 ps.length c2)) := Lib.hid fun W hW => ⟨(hW.cell (p := ⟨b, off + j * 5, none⟩) hbl).trans q0, (hW.cell (p := ⟨b, off + j * 5 + 1, none⟩) hbl).trans q1, (hW.cell (p := ⟨b, off + j * 5 + 2, none⟩) hbl).trans q2, (hW.cell (p := ⟨b, off + j * 5 + 3, none⟩) hbl).trans q3, (hW.cell (p := ⟨b, off + j * 5 + 4, none⟩) hbl).trans q4, (hW.cell (p := ⟨b2, off2 + j * 5, none⟩) hbl2).trans p0, (hW.cell (p := ⟨b2, off2 + j * 5 + 1, none⟩) hbl2).trans p1, (hW.cell (p := ⟨b2, off2 + j * 5 + 2, none⟩) hbl2).trans p2, (hW.cell (p := ⟨b2, off2 + j * 5 + 3, none⟩) hbl2).trans p3, (hW.cell (p := ⟨b2, off2 + j * 5 + 4, none⟩) hbl2).trans p4⟩
      have H1 := Lib.hid ((h1.below HB.out.drew).mono HB.out.drew.size)
      have H2 := Lib.hid ((h2.below HB.out.drew).mono HB.out.drew.size)
      clear hf h1 h2 q0 q1 q2 q3 q4 p0 p1 p2 p3 p4
      go_wp2_with fail
      go_region_held3 (fun w' => w'.cell? ⟨b, off + j * 5, none⟩ = some (.int .i64 a) ∧ w'.cell? ⟨b, off + j * 5 + 1, none⟩ = some (.int .i64 k) ∧ w'.cell? ⟨b, off + j * 5 + 2, none⟩ = some (.int .i64 r) ∧ w'.cell? ⟨b, off + j * 5 + 3, none⟩ = some (.string s) ∧ w'.cell? ⟨b, off + j * 5 + 4, none⟩ = some (.slice A1 ps.length c1) ∧ w'.cell? ⟨b2, off2 + j * 5, none⟩ = some (.int .i64 a) ∧ w'.cell? ⟨b2, off2 + j * 5 + 1, none⟩ = some (.int .i64 k) ∧ w'.cell? ⟨b2, off2 + j * 5 + 2, none⟩ = some (.int .i64 r) ∧ w'.cell? ⟨b2, off2 + j * 5 + 3, none⟩ = some (.string s) ∧ w'.cell? ⟨b2, off2 + j * 5 + 4, none⟩ = some (.slice A2 ps.length c2)) (first | with_reducible exact HQ.out _ HB0.out | with_reducible exact HQ.out _ HB9.out | fail) (first
        | (go_at_call 30; (with_reducible refine (eqFeature_yes a k r s A1 A2 c1 c2 ps ps _ H1.out H2.out rfl hpl).mono ?_); rintro e w9 ⟨rfl, hb9⟩; have HB9 := Lib.hid (HB0.out.trans (hb9.mono HB0.out.size)))
        | fail)
      all_goals
        go_wp2
        go_roundw
        case rel => exact ⟨j + 1, by omega, by go_num, HB9⟩
        case measure => simp [intOf]; omega
    · obtain rfl : j = n := by omega
      have hji : ¬ (j : Int) < (j : Int) := by omega
      go_wp2
      go_ret
      exact ⟨rfl, HB.out⟩
end Go.Proofs.YtbnjaaegbmhopaaGreatDoor
end
section
/- How far the marks go. -/
namespace Go.Proofs.YtbnjaaegbmhopaaGreatDoor
open Go.ChangeShapes Go.WideShapes Go.ChangeAt Go.RowKit
set_option linter.unusedVariables false

def ptsF : List Feat → Nat
  | [] => 0
  | f :: t => f.2.2.2.2.length + ptsF t
theorem ptsF_app (l l2 : List Feat) : ptsF (l ++ l2) = ptsF l + ptsF l2 := by
  induction l with
  | nil => simp [ptsF]
  | cons f t ih => simp only [List.cons_append, ptsF, ih]; omega
theorem mkFq_eq (l : List Feat) : ∀ k, mkFq k l = k + 4 * l.length + 2 * ptsF l := by
  induction l with
  | nil => intro k; simp [mkFq, ptsF]
  | cons f t ih => intro k; simp only [mkFq, ptsF, ih, mkFn, List.length_cons]; omega
theorem ptsF_sub {l l2 : List Feat} (h : l.Sublist l2) : ptsF l ≤ ptsF l2 := by
  induction h with
  | slnil => exact Nat.le_refl _
  | cons a _ ih => simp only [ptsF]; omega
  | cons_cons a _ ih => simp only [ptsF]; omega
theorem szL_pts (l : List Feat) : ∀ left : Int, 0 ≤ left → 0 ≤ szL left l → (ptsF l : Int) ≤ left := by
  induction l with
  | nil => intro left h _; simpa [ptsF] using h
  | cons f t ih =>
    intro left h0 h
    unfold szL at h
    split at h
    · omega
    · next hn =>
      have h1 := ih (szF left f) (by omega) h
      have h2 : szF left f + f.2.2.2.2.length ≤ left := by
        unfold szF at hn ⊢
        split
        · next h3 => rw [if_pos h3] at hn; omega
        · next h3 =>
          rw [if_neg h3] at hn
          split
          · next h4 => rw [if_pos h4] at hn; omega
          · omega
      simp only [ptsF]
      omega
theorem szS_pts {l : List Feat} {left : Int} (h : 0 ≤ szS left l) : (ptsF l : Int) + l.length ≤ left := by
  unfold szS at h
  split at h
  · omega
  · next hn => have := szL_pts l (left - l.length) (by omega) h; omega
theorem rest_subl (l : List Feat) (i : Int) : (restV l i).Sublist (l.drop (cutK l i)) := rest_sub l i
theorem putOut_pts (l : List Feat) (f : Feat) : ptsF (putOut l f) ≤ ptsF l + f.2.2.2.2.length ∧ (putOut l f).length ≤ l.length + 1 := by
  have h1 : ptsF l = ptsF (l.take (cutK l f.1)) + ptsF (l.drop (cutK l f.1)) := by rw [← ptsF_app, List.take_append_drop]
  have h2 := ptsF_sub (rest_sub l f.1)
  have h3 := (rest_sub l f.1).length_le
  have h4 := cut_le l f.1
  unfold putOut
  rw [ptsF_app, ptsF_app]
  simp only [ptsF, List.length_append, List.length_take, List.length_drop, List.length_cons, List.length_nil] at h3 ⊢
  omega
theorem putV_pts (l : List Feat) (f : Feat) : ptsF (putV l f).1 ≤ ptsF l + f.2.2.2.2.length ∧ (putV l f).1.length ≤ l.length + 1 := by
  unfold putV
  split
  · exact putOut_pts l f
  · exact ⟨Nat.le_add_right _ _, Nat.le_succ _⟩
theorem takeV_pts (l : List Feat) (i : Int) : ptsF (takeV l i).1 ≤ ptsF l ∧ (takeV l i).1.length ≤ l.length := by
  unfold takeV
  split
  · have h1 : ptsF l = ptsF (l.take (findV l i).toNat) + ptsF (l.drop (findV l i).toNat) := by rw [← ptsF_app, List.take_append_drop]
    have hs : (l.drop ((findV l i).toNat + 1)).Sublist (l.drop (findV l i).toNat) := by
      rw [← List.drop_drop]; exact List.drop_sublist _ _
    have h2 := ptsF_sub hs
    rw [ptsF_app]
    simp only [List.length_append, List.length_take, List.length_drop]
    exact ⟨by omega, by omega⟩
  · exact ⟨Nat.le_refl _, Nat.le_refl _⟩
end Go.Proofs.YtbnjaaegbmhopaaGreatDoor
end
section
/- Small features, and frames of what a law holds while it marks: for the exact laws. -/
namespace Go.Proofs.YtbnjaaegbmhopaaGreatDoor
open Go.ChangeShapes Go.WideShapes Go.ChangeAt Go.RowKit
set_option linter.unusedVariables false

theorem few_pts {l : List Feat} (h : ptsF l ≤ 274877906944) : FewP l := by
  have key : ∀ (l : List Feat) (f : Feat), f ∈ l → f.2.2.2.2.length ≤ ptsF l := by
    intro l
    induction l with
    | nil => intro f h; simp at h
    | cons g t ih =>
      intro f h
      simp only [ptsF]
      rcases List.mem_cons.1 h with rfl | h
      · omega
      · have := ih f h; omega
  intro j f hf
  exact Nat.le_trans (key l f (List.mem_of_getElem? hf)) h
theorem small_le {left : Int} {l : List Feat} (hl : left ≤ 1048576) (h : 0 ≤ szS left l) : l.length ≤ 1048576 ∧ SmallF l ∧ ptsF l ≤ 1048576 ∧ szS left l ≤ left := by
  obtain ⟨h1, h4, h2⟩ := szS_ok h
  have h3 := szS_pts h
  refine ⟨by omega, fun j f hf => ?_, by omega, h4⟩
  have := h2 f (List.mem_of_getElem? hf)
  unfold maxLen
  omega
section
variable {w0 w w' : World} {l : List (Array Value)} {m b lo hi : Nat} {cs : Array Value}
theorem Vars.within (h : Vars w0 w l) (hw : Within lo hi w w') (hlo : w0.heap.size + l.length ≤ lo) : Vars w0 w' l := by
  refine ⟨h.1.trans (hw.below (B := w0.heap.size) (by omega) h.1.size), Nat.le_trans h.2.1 hw.size, fun j x hj => ?_⟩
  have hl : j < l.length := (List.getElem?_eq_some_iff.1 hj).1
  have h2 := h.2.1
  obtain ⟨T, h3⟩ := h.2.2 j x hj
  exact ⟨T, (hw.block _ (by omega) (.inl (by omega))).trans h3⟩
theorem OneV.within (h : OneV m w b cs) (hw : Within lo hi w w') (hb : b < lo ∨ hi ≤ b) : OneV m w' b cs := by
  have hl := h.lt
  obtain ⟨h1, T, h3⟩ := h
  exact ⟨h1, T, (hw.block _ hl hb).trans h3⟩
theorem OneV.five {v0 v1 v2 v3 v4 : Value} (h : OneV m w b #[v0, v1, v2, v3, v4]) : w.cell? ⟨b, 0, none⟩ = some v0 ∧ w.cell? ⟨b, 1, none⟩ = some v1 ∧ w.cell? ⟨b, 2, none⟩ = some v2 ∧ w.cell? ⟨b, 3, none⟩ = some v3 ∧ w.cell? ⟨b, 4, none⟩ = some v4 :=
  ⟨h.cell 0 rfl, h.cell 1 rfl, h.cell 2 rfl, h.cell 3 rfl, h.cell 4 rfl⟩
theorem Vars.fiveAt {v0 v1 v2 v3 v4 : Value} (h : Vars w0 w l) (b j : Nat) (hb : b = w0.heap.size + j) (hj : l[j]? = some #[v0, v1, v2, v3, v4]) : w.cell? ⟨b, 0, none⟩ = some v0 ∧ w.cell? ⟨b, 1, none⟩ = some v1 ∧ w.cell? ⟨b, 2, none⟩ = some v2 ∧ w.cell? ⟨b, 3, none⟩ = some v3 ∧ w.cell? ⟨b, 4, none⟩ = some v4 :=
  ⟨h.cell _ j 0 hb hj rfl, h.cell _ j 1 hb hj rfl, h.cell _ j 2 hb hj rfl, h.cell _ j 3 hb hj rfl, h.cell _ j 4 hb hj rfl⟩
end
theorem HeldE.wits {α : Type} {n : Nat} {enc : α → List Value} {w w' : World} {lo hi : Nat} {e : TypeId} {v : Value} {L : List α} (h : HeldE n enc w lo hi e v L) (hg : w.grownBy w' v.ownBlock) : Within lo hi w w' :=
  Within.grown hg fun g hg' => ⟨(h.1.lt g hg').1, h.2.1 g hg'⟩
theorem HeldE.caps {α : Type} {n : Nat} {enc : α → List Value} {w : World} {lo hi m c : Nat} {e : TypeId} {A : Option Addr} {L : List α} (h : HeldE n enc w lo hi e (.slice A m c) L) : L.length ≤ c ∧ (c : Int) ≤ 9223372036854775807 := (own_caps h.1).2
theorem HeldF.caps {w : World} {lo hi m c : Nat} {A : Option Addr} {l : List Feat} (h : HeldF w lo hi (.slice A m c) l) : l.length ≤ c ∧ (c : Int) ≤ 9223372036854775807 := own_capsF h.own
end Go.Proofs.YtbnjaaegbmhopaaGreatDoor
end
section
/- A point as an argument of a law: opened to its two integers. -/
namespace Go.Proofs.YtbnjaaegbmhopaaGreatDoor
open Go.ChangeShapes Go.WideShapes Go.ChangeAt Go.RowKit Go.Joins
set_option linter.unusedVariables false

set_option maxRecDepth 100000 in
theorem cellsPt : Tryz.prog.cellsOf 144 = 2 := by kernel_rfl
set_option maxRecDepth 100000 in
theorem open_pt {H : Type} {enc : TypeId × Value → H} {W : World} {base b0 : Nat} {spare : Nat → Bool} {held : Bool} {r : Reach} {v : Value} {d : DataW H} {p : List MemPlace}
    (hv : Value.okWide Tryz.prog W r b0 144 v) (h : DataW.Trod enc Tryz.prog W base spare held 144 v d p) :
    ∃ x y : Int, v = PtV x y ∧ (Lit.int .i64 x).wf = true ∧ (Lit.int .i64 y).wf = true := by
  obtain ⟨c0, c1, y0, y1, m, rfl, rfl, rfl, hy0, hy1⟩ := open_agg2 Tryz.underlying144 (by kernel_rfl) cellsPt hv h
  obtain ⟨a, e0, rfl, wa⟩ := DataW.trod_int Tryz.underlying3 hy0
  obtain ⟨b, e1, rfl, wb⟩ := DataW.trod_int Tryz.underlying3 hy1
  simp at e0 e1
  subst e0 e1
  exact ⟨a, b, rfl, wa, wb⟩
end Go.Proofs.YtbnjaaegbmhopaaGreatDoor
end
section
/- A slice of points as an argument of a law: opened to a list of pairs. -/
namespace Go.Proofs.YtbnjaaegbmhopaaGreatDoor
open Go.ChangeShapes Go.WideShapes Go.ChangeAt Go.RowKit Go.Joins
set_option linter.unusedVariables false
set_option maxRecDepth 100000

/-- A slice argument that shows l. -/
def ShowsP (w : World) (a : Option Addr) (len : Nat) (l : List (Int × Int)) : Prop := len = l.length ∧ SeesE 2 encPoint w w.heap.size a l ∧ l.length ≤ 9223372036854775807
theorem trod_pt {H : Type} {enc : TypeId × Value → H} {W : World} {base : Nat} {spare : Nat → Bool} {held : Bool} {n : Nat} {cs : List Value} {y : DataW H × List MemPlace}
    (h : DataW.trod enc Tryz.prog W base spare held n 144 cs = some y) : ∃ a b : Int, cs = [.int .i64 a, .int .i64 b] := by
  obtain ⟨y0, y1, m, hx, hlen, h0, h1⟩ := trod_struct2 Tryz.underlying144 h
  obtain ⟨c0, c1, rfl⟩ : ∃ c0 c1, cs = [c0, c1] := by
    rw [cellsPt] at hlen
    match cs, hlen with
    | [c0, c1], _ => exact ⟨c0, c1, rfl⟩
  have hc : Tryz.prog.cellsOf 3 = 1 := by kernel_rfl
  have h0' := h0; have h1' := h1
  simp [hc] at h0'
  simp [hc] at h1'
  obtain ⟨a, e0, -, -⟩ := DataW.trod_int Tryz.underlying3 h0'
  obtain ⟨b, e1, -, -⟩ := DataW.trod_int Tryz.underlying3 h1'
  simp at e0 e1
  subst e0 e1
  exact ⟨a, b, rfl⟩
theorem open_pts {H : Type} {enc : TypeId × Value → H} {W : World} {base b0 : Nat} {spare : Nat → Bool} {held : Bool} {r : Reach} {v : Value} {d : DataW H} {p : List MemPlace}
    (hv : Value.okWide Tryz.prog W r b0 52 v) (h : DataW.Trod enc Tryz.prog W base spare held 52 v d p) :
    ∃ (a : Option Addr) (len cap : Nat) (l : List (Int × Int)), v = .slice a len cap ∧ ShowsP W a len l := by
  obtain ⟨a, len, cap, rfl⟩ := okWide_slice Tryz.underlying52 hv
  obtain ⟨fuel, hf⟩ := h
  rcases DataW.trod_slice Tryz.underlying52 hf with ⟨hcs, -⟩ | ⟨ad, l', c', elems, rest, n, -, hcs, -, hb, hl, hm, hlen, hel, -, -⟩
  · simp [Value.cells] at hcs
    obtain ⟨rfl, rfl, rfl⟩ := hcs
    exact ⟨none, 0, 0, [], rfl, rfl, SeesE.nil, by simp⟩
  · simp [Value.cells] at hcs
    obtain ⟨rfl, rfl, rfl⟩ := hcs
    obtain ⟨b, off, spot⟩ := ad
    have each : ∀ i, i < len → ∃ x : Int × Int, W.cell? ((⟨b, off, spot⟩ : Addr).add (i * 2)) = some (.int .i64 x.1) ∧ W.cell? (((⟨b, off, spot⟩ : Addr).add (i * 2)).add 1) = some (.int .i64 x.2) := by
      intro i hi
      obtain ⟨y, hy⟩ : ∃ y, elems[i]? = some y := ⟨_, List.getElem?_eq_getElem (by omega)⟩
      have h1 := hel i hi
      rw [hy, cellsPt, Option.bind_eq_some_iff] at h1
      obtain ⟨cs, hcs, ht⟩ := h1
      obtain ⟨a, b, rfl⟩ := trod_pt ht
      have h2 := (World.cells?_some hcs).2.2
      exact ⟨(a, b), by have := h2 0 (by omega); simpa [Addr.add] using this, by have := h2 1 (by omega); simpa using this⟩
    have hf2 : ∀ i : Nat, ∃ x : Int × Int, i < len → W.cell? ((⟨b, off, spot⟩ : Addr).add (i * 2)) = some (.int .i64 x.1) ∧ W.cell? (((⟨b, off, spot⟩ : Addr).add (i * 2)).add 1) = some (.int .i64 x.2) := fun i => by
      by_cases hi : i < len
      · obtain ⟨x, hx⟩ := each i hi; exact ⟨x, fun _ => hx⟩
      · exact ⟨(0, 0), fun h => absurd h hi⟩
    let f : Nat → Int × Int := fun i => Classical.choose (hf2 i)
    have hff : ∀ i, i < len → W.cell? ((⟨b, off, spot⟩ : Addr).add (i * 2)) = some (.int .i64 (f i).1) ∧ W.cell? (((⟨b, off, spot⟩ : Addr).add (i * 2)).add 1) = some (.int .i64 (f i).2) := fun i => Classical.choose_spec (hf2 i)
    clear_value f
    refine ⟨_, _, _, (List.range len).map f, rfl, by simp, fun j x hj => ?_, by unfold maxLen at hm; simp; omega⟩
    simp only [List.getElem?_map, Option.map_eq_some_iff] at hj
    obtain ⟨i, hi, rfl⟩ := hj
    have hil : i < len := by have := List.mem_of_getElem? hi; simpa using this
    obtain rfl : i = j := by
      have := (List.getElem?_eq_some_iff.1 hi).2
      simpa using this.symm
    have hspot : spot = none := by
      have h0 := (hff 0 (by omega)).1
      simpa [Addr.add] using World.cell?_spot h0
    subst hspot
    obtain ⟨g0, g1⟩ := hff i hil
    rw [add_none] at g0 g1
    rw [add_none] at g1
    refine ⟨b, off, rfl, World.block_lt_of_cell? W _ g0, fun k u hu => ?_⟩
    match k, hu with
    | 0, hu => simp [encPoint] at hu; subst hu; exact g0
    | 1, hu => simp [encPoint] at hu; subst hu; exact g1
    | k + 2, hu => simp [encPoint] at hu
end Go.Proofs.YtbnjaaegbmhopaaGreatDoor
end
section
namespace Go.Proofs.YtbnjaaegbmhopaaGreatDoor
open Go.ChangeShapes Go.WideShapes Go.ChangeAt Go.RowKit Go.Joins
set_option linter.unusedVariables false
set_option maxRecDepth 100000

section
variable {H : Type} {enc : TypeId × Value → H} {W : World} {base b0 : Nat} {spare : Nat → Bool} {held : Bool} {n : Nat} {cs : List Value} {y : DataW H × List MemPlace}
theorem trod_pts (h : DataW.trod enc Tryz.prog W base spare held n 52 cs = some y) :
    ∃ (a : Option Addr) (len cap : Nat) (l : List (Int × Int)), cs = [.slice a len cap] ∧ ShowsP W a len l ∧ len ≤ cap ∧ (cap : Int) ≤ 9223372036854775807 := by
  rcases DataW.trod_slice Tryz.underlying52 h with ⟨hcs, -⟩ | ⟨ad, len, cap, elems, rest, m, -, hcs, -, hb, hl, hm, hlen, hel, -, -⟩
  · exact ⟨none, 0, 0, [], hcs, ⟨rfl, SeesE.nil, by simp⟩, Nat.le_refl _, by decide⟩
  · obtain ⟨b, off, spot⟩ := ad
    have each : ∀ i, i < len → ∃ x : Int × Int, W.cell? ((⟨b, off, spot⟩ : Addr).add (i * 2)) = some (.int .i64 x.1) ∧ W.cell? (((⟨b, off, spot⟩ : Addr).add (i * 2)).add 1) = some (.int .i64 x.2) := by
      intro i hi
      obtain ⟨y, hy⟩ : ∃ y, elems[i]? = some y := ⟨_, List.getElem?_eq_getElem (by omega)⟩
      have h1 := hel i hi
      rw [hy, cellsPt, Option.bind_eq_some_iff] at h1
      obtain ⟨cs, hcs, ht⟩ := h1
      obtain ⟨a, b, rfl⟩ := trod_pt ht
      have h2 := (World.cells?_some hcs).2.2
      exact ⟨(a, b), by have := h2 0 (by omega); simpa [Addr.add] using this, by have := h2 1 (by omega); simpa using this⟩
    have hf2 : ∀ i : Nat, ∃ x : Int × Int, i < len → W.cell? ((⟨b, off, spot⟩ : Addr).add (i * 2)) = some (.int .i64 x.1) ∧ W.cell? (((⟨b, off, spot⟩ : Addr).add (i * 2)).add 1) = some (.int .i64 x.2) := fun i => by
      by_cases hi : i < len
      · obtain ⟨x, hx⟩ := each i hi; exact ⟨x, fun _ => hx⟩
      · exact ⟨(0, 0), fun h => absurd h hi⟩
    let f : Nat → Int × Int := fun i => Classical.choose (hf2 i)
    have hff : ∀ i, i < len → W.cell? ((⟨b, off, spot⟩ : Addr).add (i * 2)) = some (.int .i64 (f i).1) ∧ W.cell? (((⟨b, off, spot⟩ : Addr).add (i * 2)).add 1) = some (.int .i64 (f i).2) := fun i => Classical.choose_spec (hf2 i)
    clear_value f
    refine ⟨_, _, _, (List.range len).map f, hcs, ⟨by simp, fun j x hj => ?_, by unfold maxLen at hm; simp; omega⟩, hl, by unfold maxLen at hm; omega⟩
    simp only [List.getElem?_map, Option.map_eq_some_iff] at hj
    obtain ⟨i, hi, rfl⟩ := hj
    have hil : i < len := by have := List.mem_of_getElem? hi; simpa using this
    obtain rfl : i = j := by
      have := (List.getElem?_eq_some_iff.1 hi).2
      simpa using this.symm
    have hspot : spot = none := by
      have h0 := (hff 0 (by omega)).1
      simpa [Addr.add] using World.cell?_spot h0
    subst hspot
    obtain ⟨g0, g1⟩ := hff i hil
    rw [add_none] at g0 g1
    rw [add_none] at g1
    refine ⟨b, off, rfl, World.block_lt_of_cell? W _ g0, fun k u hu => ?_⟩
    match k, hu with
    | 0, hu => simp [encPoint] at hu; subst hu; exact g0
    | 1, hu => simp [encPoint] at hu; subst hu; exact g1
    | k + 2, hu => simp [encPoint] at hu
theorem trod_struct5 {P : Program} {t : TypeId} {f0 f1 f2 f3 f4 : Field} {fuel : Nat} {x : DataW H × List MemPlace} (ht : P.underlying t = some (.struct #[f0, f1, f2, f3, f4])) (h : DataW.trod enc P W base spare held fuel t cs = some x) :
    ∃ y0 y1 y2 y3 y4 m, cs.length = P.cellsOf t ∧ DataW.trod enc P W base spare held m f0.type ((cs.drop f0.offset).take (P.cellsOf f0.type)) = some y0 ∧ DataW.trod enc P W base spare held m f1.type ((cs.drop f1.offset).take (P.cellsOf f1.type)) = some y1 ∧
      DataW.trod enc P W base spare held m f2.type ((cs.drop f2.offset).take (P.cellsOf f2.type)) = some y2 ∧ DataW.trod enc P W base spare held m f3.type ((cs.drop f3.offset).take (P.cellsOf f3.type)) = some y3 ∧ DataW.trod enc P W base spare held m f4.type ((cs.drop f4.offset).take (P.cellsOf f4.type)) = some y4 := by
  obtain ⟨xs, m, _, rfl, hl, hlen, hf⟩ := DataW.trod_struct ht h
  match xs, hlen with
  | [y0, y1, y2, y3, y4], _ => exact ⟨y0, y1, y2, y3, y4, m, hl, by simpa using hf 0 f0 rfl, by simpa using hf 1 f1 rfl, by simpa using hf 2 f2 rfl, by simpa using hf 3 f3 rfl, by simpa using hf 4 f4 rfl⟩
theorem szOfFeature : Tryz.prog.cellsOf 54 = 5 := by kernel_rfl
theorem szOfInt : Tryz.prog.cellsOf 3 = 1 := by kernel_rfl
theorem szOfString : Tryz.prog.cellsOf 9 = 1 := by kernel_rfl
theorem szOfPts : Tryz.prog.cellsOf 52 = 1 := by kernel_rfl
theorem trod_feat (h : DataW.trod enc Tryz.prog W base spare held n 54 cs = some y) :
    ∃ (a k r : Int) (s : ByteArray) (A : Option Addr) (m c : Nat) (ps : List (Int × Int)), cs = [.int .i64 a, .int .i64 k, .int .i64 r, .string s, .slice A m c] ∧ s.size ≤ maxLen ∧ ShowsP W A m ps ∧ m ≤ c ∧ (c : Int) ≤ 9223372036854775807 := by
  obtain ⟨y0, y1, y2, y3, y4, m, hlen, h0, h1, h2, h3, h4⟩ := trod_struct5 Tryz.underlying54 h
  rw [szOfFeature] at hlen
  obtain ⟨c0, c1, c2, c3, c4, rfl⟩ : ∃ c0 c1 c2 c3 c4, cs = [c0, c1, c2, c3, c4] := by
    match cs, hlen with
    | [c0, c1, c2, c3, c4], _ => exact ⟨c0, c1, c2, c3, c4, rfl⟩
  simp [szOfInt, szOfString, szOfPts] at h0 h1 h2 h3 h4
  obtain ⟨a, e0, -, -⟩ := DataW.trod_int Tryz.underlying3 h0
  obtain ⟨k, e1, -, -⟩ := DataW.trod_int Tryz.underlying3 h1
  obtain ⟨r, e2, -, -⟩ := DataW.trod_int Tryz.underlying3 h2
  obtain ⟨s, e3, -, hs⟩ := DataW.trod_string Tryz.underlying9 h3
  obtain ⟨A, len, cap, l, e4, hl, hc, hm⟩ := trod_pts h4
  simp at e0 e1 e2 e3 e4
  subst e0 e1 e2 e3 e4
  exact ⟨a, k, r, s, A, len, cap, l, rfl, hs, hl, hc, hm⟩
end
/-- A feature as an argument. -/
def ShowsFt (w : World) (s : ByteArray) (A : Option Addr) (m c : Nat) (ps : List (Int × Int)) : Prop := s.size ≤ maxLen ∧ ShowsP w A m ps ∧ m ≤ c ∧ (c : Int) ≤ 9223372036854775807
theorem open_feat {H : Type} {enc : TypeId × Value → H} {W : World} {base b0 : Nat} {spare : Nat → Bool} {held : Bool} {r : Reach} {v : Value} {d : DataW H} {p : List MemPlace}
    (hv : Value.okWide Tryz.prog W r b0 54 v) (h : DataW.Trod enc Tryz.prog W base spare held 54 v d p) :
    ∃ (a k rk : Int) (s : ByteArray) (A : Option Addr) (m c : Nat) (ps : List (Int × Int)), v = FtV a k rk s A m c ∧ ShowsFt W s A m c ps := by
  obtain ⟨cs, rfl, hsz⟩ := okWide_struct Tryz.underlying54 hv
  obtain ⟨fuel, hf⟩ := h
  obtain ⟨a, k, rk, s, A, m, c, ps, e, h1, h2, h3, h4⟩ := trod_feat hf
  refine ⟨a, k, rk, s, A, m, c, ps, ?_, h1, h2, h3, h4⟩
  simp only [Value.cells] at e
  have : cs = #[.int .i64 a, .int .i64 k, .int .i64 rk, .string s, .slice A m c] := by
    apply Array.toList_inj.1
    simpa using e
  rw [this]
/-- A slice of features as an argument. -/
def ShowsF (w : World) (a : Option Addr) (len : Nat) (l : List Feat) : Prop := len = l.length ∧ SeesF w w.heap.size a l ∧ l.length ≤ 9223372036854775807 ∧ MachF l
theorem open_feats {H : Type} {enc : TypeId × Value → H} {W : World} {base b0 : Nat} {spare : Nat → Bool} {held : Bool} {r : Reach} {v : Value} {d : DataW H} {p : List MemPlace}
    (hv : Value.okWide Tryz.prog W r b0 63 v) (h : DataW.Trod enc Tryz.prog W base spare held 63 v d p) :
    ∃ (a : Option Addr) (len cap : Nat) (l : List Feat), v = .slice a len cap ∧ ShowsF W a len l := by
  obtain ⟨a, len, cap, rfl⟩ := okWide_slice Tryz.underlying63 hv
  obtain ⟨fuel, hf⟩ := h
  rcases DataW.trod_slice Tryz.underlying63 hf with ⟨hcs, -⟩ | ⟨ad, l', c', elems, rest, n, -, hcs, -, hb, hl, hm, hlen, hel, -, -⟩
  · simp [Value.cells] at hcs
    obtain ⟨rfl, rfl, rfl⟩ := hcs
    exact ⟨none, 0, 0, [], rfl, rfl, SeesF.nil, by simp, fun j f hf => by simp at hf⟩
  · simp [Value.cells] at hcs
    obtain ⟨rfl, rfl, rfl⟩ := hcs
    obtain ⟨b, off, spot⟩ := ad
    have each : ∀ i, i < len → ∃ z : FCel × Feat, (∀ k u, (encF z.1)[k]? = some u → W.cell? (((⟨b, off, spot⟩ : Addr).add (i * 5)).add k) = some u) ∧ Deep W W.heap.size z.1 z.2 ∧ z.2.2.2.2.1.size ≤ maxLen ∧ z.2.2.2.2.2.length ≤ 9223372036854775807 := by
      intro i hi
      obtain ⟨y, hy⟩ : ∃ y, elems[i]? = some y := ⟨_, List.getElem?_eq_getElem (by omega)⟩
      have h1 := hel i hi
      rw [hy, szOfFeature, Option.bind_eq_some_iff] at h1
      obtain ⟨cs, hcs, ht⟩ := h1
      obtain ⟨a, k, r, s, A, m, c, ps, rfl, hs, ⟨hp1, hp2, hp3⟩, hc, hc2⟩ := trod_feat ht
      have h2 := (World.cells?_some hcs).2.2
      refine ⟨((a, k, r, s, A, m, c), (a, k, r, s, ps)), fun q u hu => ?_, ⟨rfl, rfl, rfl, rfl, hp1, hp2, by dsimp only; omega, hc2⟩, hs, hp3⟩
      have hq : q < 5 := by have := (List.getElem?_eq_some_iff.1 hu).1; simpa [encF] using this
      have h3 := h2 q hq
      rw [h3]
      exact hu
    have hf2 : ∀ i : Nat, ∃ z : FCel × Feat, i < len → (∀ k u, (encF z.1)[k]? = some u → W.cell? (((⟨b, off, spot⟩ : Addr).add (i * 5)).add k) = some u) ∧ Deep W W.heap.size z.1 z.2 ∧ z.2.2.2.2.1.size ≤ maxLen ∧ z.2.2.2.2.2.length ≤ 9223372036854775807 := fun i => by
      by_cases hi : i < len
      · obtain ⟨x, hx⟩ := each i hi; exact ⟨x, fun _ => hx⟩
      · exact ⟨((0, 0, 0, ⟨#[]⟩, none, 0, 0), (0, 0, 0, ⟨#[]⟩, [])), fun h => absurd h hi⟩
    let f : Nat → FCel × Feat := fun i => Classical.choose (hf2 i)
    have hff : ∀ i, i < len → (∀ k u, (encF (f i).1)[k]? = some u → W.cell? (((⟨b, off, spot⟩ : Addr).add (i * 5)).add k) = some u) ∧ Deep W W.heap.size (f i).1 (f i).2 ∧ (f i).2.2.2.2.1.size ≤ maxLen ∧ (f i).2.2.2.2.2.length ≤ 9223372036854775807 := fun i => Classical.choose_spec (hf2 i)
    clear_value f
    have at1 : ∀ (j : Nat) x, ((List.range len).map fun i => (f i).1)[j]? = some x → j < len ∧ x = (f j).1 := fun j x hj => by
      simp only [List.getElem?_map, Option.map_eq_some_iff] at hj
      obtain ⟨i, hi, rfl⟩ := hj
      have hil : i < len := by have := List.mem_of_getElem? hi; simpa using this
      obtain rfl : i = j := by
        have := (List.getElem?_eq_some_iff.1 hi).2
        simpa using this.symm
      exact ⟨hil, rfl⟩
    have at2 : ∀ (j : Nat) x, ((List.range len).map fun i => (f i).2)[j]? = some x → j < len ∧ x = (f j).2 := fun j x hj => by
      simp only [List.getElem?_map, Option.map_eq_some_iff] at hj
      obtain ⟨i, hi, rfl⟩ := hj
      have hil : i < len := by have := List.mem_of_getElem? hi; simpa using this
      obtain rfl : i = j := by
        have := (List.getElem?_eq_some_iff.1 hi).2
        simpa using this.symm
      exact ⟨hil, rfl⟩
    refine ⟨_, _, _, (List.range len).map fun i => (f i).2, rfl, by simp, ⟨(List.range len).map fun i => (f i).1, by simp, fun j x hj => ?_, fun j x g hx hg => ?_⟩, by unfold maxLen at hm; simp; omega, fun j g hg => ?_⟩
    · obtain ⟨hjl, rfl⟩ := at1 j x hj
      have hspot : spot = none := by
        have h0 := (hff 0 (by omega)).1 0 _ rfl
        simpa [Addr.add] using World.cell?_spot h0
      subst hspot
      have hc := (hff j hjl).1
      refine ⟨b, off, rfl, ?_, fun k u hu => ?_⟩
      · have h0 := hc 0 _ rfl
        rw [add_none, add_none] at h0
        exact World.block_lt_of_cell? W _ h0
      · have h0 := hc k u hu
        rw [add_none, add_none] at h0
        exact h0
    · obtain ⟨hjl, rfl⟩ := at1 j x hx
      obtain ⟨_, rfl⟩ := at2 j g hg
      exact (hff j hjl).2.1
    · obtain ⟨hjl, rfl⟩ := at2 j g hg
      exact (hff j hjl).2.2
end Go.Proofs.YtbnjaaegbmhopaaGreatDoor
end
