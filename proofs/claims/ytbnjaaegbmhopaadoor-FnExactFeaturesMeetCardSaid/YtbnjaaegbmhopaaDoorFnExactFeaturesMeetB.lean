/- For every two features, FeaturesMeet of package impl gives what the model gives, and leaves its arguments as they were. -/
import Derived.Test.YtbnjaaegbmhopaaDoorShelf
import Derived.Test.YtbnjaaegbmhopaaDoorHelpE
import Derived.Test.YtbnjaaegbmhopaaDoorInt
import Derived.Test.YtbnjaaegbmhopaaDoorRing
import Derived.Test.YtbnjaaegbmhopaaDoorTurn
import Derived.Test.YtbnjaaegbmhopaaDoorLineJ
import Derived.Test.YtbnjaaegbmhopaaDoorChecked
import Derived.WalkKit
import Derived.LaidEql
import Derived.Stop.Asserts
import Derived.RowKitTokens
import Derived.Test.YtbnjaaegbmhopaaDoorFeat
import Derived.Test.YtbnjaaegbmhopaaDoorSegCall
import Derived.Test.YtbnjaaegbmhopaaDoorLine
import Derived.Test.YtbnjaaegbmhopaaDoorTabs
import Derived.Deep.LoopGhost
import Derived.Deep.DeepCutAuto
import Derived.Test.YtbnjaaegbmhopaaDoorFeatS
import Derived.Deep.RegionHeld3
import Derived.Test.YtbnjaaegbmhopaaDoorFeatImpl
import Derived.Test.YtbnjaaegbmhopaaDoorOneVar
import Derived.Test.YtbnjaaegbmhopaaDoorRows
import Derived.Stop.LaidErr
import Derived.LaidMore
import Derived.Test.YtbnjaaegbmhopaaDoorLawEqF
import Derived.Test.YtbnjaaegbmhopaaDoorFeatO
import Derived.Test.YtbnjaaegbmhopaaDoorTie
import Derived.Test.YtbnjaaegbmhopaaDoorCards
import Derived.Test.YtbnjaaegbmhopaaDoorOpenF
import Derived.ProofKit
import Derived.OpenShut
import Derived.ShutString
import Derived.SizedLaws
import Derived.Stop.Joined
import Derived.SevenTiedAt
import Derived.Below
section
/- slices.Grow of nothing and slices.Concat of two, at points; RotateRing of package impl. -/
namespace Go.Proofs.YtbnjaaegbmhopaaDoor
open Go.ChangeShapes Go.WideShapes Go.ChangeAt Go.RowKit
set_option linter.unusedVariables false

/-- Grow of nothing: no points, with room. -/
theorem grow_any (n : Nat) (w : World) (hn : n ≤ 2199023255552) :
    Calls Tryd.prog 95 #[.slice none 0 0, .int .i64 n] w fun e w' => ∃ A c, e = .returned (.slice A 0 c) ∧ OwnE 2 encPoint w' w.heap.size 33 (.slice A 0 c) ([] : List (Int × Int)) ∧ Below w.heap.size w w' := by
  by_cases h0 : n = 0
  · subst h0
    refine (Any8.slices_Grow_room Tryd.growPt none 0 0 0 w (Nat.le_refl _) (by omega) (by omega) (by omega)).mono ?_
    rintro e w' ⟨rfl, rfl⟩
    exact ⟨none, 0, rfl, OwnE.nil _ _ _, Below.refl _ _⟩
  · obtain ⟨i, hi, hz, h1, h2⟩ := info_parts infoPoint
    refine (Any8.slices_Grow_grow Tryd.growPt i _ hi hz (by rw [h1]; decide) none 0 0 n [] w (Nat.le_refl _) (by omega) (by rw [h2]; omega) (by omega) (by simp) (fun _ => rfl) (fun a h => by cases h)).mono ?_
    rintro e w' ⟨he, hw⟩
    obtain ⟨G, hG⟩ : ∃ G, grownCap w (0 + n) 0 33 = G := ⟨_, rfl⟩
    have hge := grownCap_ge w (0 + n) 0 33
    have hle := grownCap_le_maxLen w (0 + n) 0 33 (by unfold maxLen; omega)
    change e = .returned (.slice (some ⟨w.heap.size, 0, none⟩) 0 (grownCap w (0 + n) 0 33)) at he
    change w' = w.drew.alloc (.cells (([] : List Value).toArray ++ Builtin.zeroCells (PtV 0 0).cells (0 + n - 0) ++ Builtin.zeroCells (PtV 0 0).cells (grownCap w (0 + n) 0 33 - (0 + n))) 33) at hw
    rw [hG] at hge hle he hw
    subst he hw
    refine ⟨_, _, rfl, ⟨by simp [cellsE], .inr ⟨w.heap.size, _, _, rfl, Nat.le_refl _, heap_alloc_new w.drew _, Nat.zero_le _, hle, ?_, by simp [cellsE]⟩⟩, (Below.refl _ w).drew.alloc (Nat.le_refl _) _⟩
    simp only [Array.size_append, size_zeroCells, List.size_toArray, List.length_nil]
    have hc : (PtV 0 0).cells.size = 2 := rfl
    rw [hc]; omega
/-- What is laid behind j of both. -/
def catV (l m : List (Int × Int)) (j : Nat) : List (Int × Int) := if j = 0 then [] else if j = 1 then l else l ++ m
def CatS (a b : Nat) (n i : Value) : Prop := (i = .int .i64 0 ∧ n = .int .i64 0) ∨ (i = .int .i64 1 ∧ n = .int .i64 (a : Int)) ∨ (i = .int .i64 2 ∧ n = .int .i64 ((a : Int) + b))
set_option maxRecDepth 100000 in
set_option maxHeartbeats 4000000 in
theorem concat_any (g : Nat) (A A' : Option Addr) (c c' : Nat) (l m : List (Int × Int)) (w : World) (h0 : w.cell? ⟨g, 0, none⟩ = some (.slice A l.length c)) (h1 : w.cell? ⟨g, 1, none⟩ = some (.slice A' m.length c'))
    (hs : SeesE 2 encPoint w w.heap.size A l) (hs' : SeesE 2 encPoint w w.heap.size A' m) (hl : l.length ≤ 549755813888) (hm : m.length ≤ 549755813888) :
    Calls Tryd.prog 71 #[.slice (some ⟨g, 0, none⟩) 2 2] w (GivesE 2 encPoint 33 (l ++ m) w) := by
  have HS := Lib.hid hs; clear hs
  have HS' := Lib.hid hs'; clear hs'
  have HM : Hid ((l ++ m).length = l.length + m.length) := Lib.hid (by simp)
  go_enter Tryd.func71, Tryd.ntmps71
  go_wp2
  go_loop [3, 11] (fun n i => CatS l.length m.length n i) (fun _ i => 2 - (intOf i).toNat)
  case atStart => exact .inl ⟨rfl, rfl⟩
  case round =>
    rcases hrel with ⟨rfl, rfl⟩ | ⟨rfl, rfl⟩ | ⟨rfl, rfl⟩
    · go_wp2
      go_round
      case rel => exact .inr (.inl ⟨rfl, by go_num⟩)
      case measure => simp [intOf]
    · go_wp2
      go_round
      case rel => exact .inr (.inr ⟨rfl, by go_num⟩)
      case measure => simp [intOf]
    · have e : (l.length : Int) + m.length = ((l.length + m.length : Nat) : Int) := by omega
      rw [e]
      obtain ⟨q, hq⟩ : ∃ q, l.length + m.length = q := ⟨_, rfl⟩
      have hq2 : q ≤ 1099511627776 := by omega
      rw [hq]
      have HQ := Lib.hid hq
      clear e hq
      go_wp2_with fail
      refine (grow_any q w (by omega)).mono ?_
      rintro e w1 ⟨A1, c1, rfl, ho1, hb1⟩
      have HO1 := Lib.hid ho1; have HB1 := Lib.hid hb1
      have HW := Lib.hid hb1.size
      have g0 := (hb1.cell (World.block_lt_of_cell? _ _ h0)).trans h0
      have g1 := (hb1.cell (World.block_lt_of_cell? _ _ h1)).trans h1
      have hgl := World.block_lt_of_cell? _ _ h0
      have H0 := Lib.hid h0; have H1 := Lib.hid h1
      clear ho1 hb1 h0 h1
      go_wp2
      go_loopw [6, 27] (fun v i wr => ∃ (j : Nat) (A2 : Option Addr) (c2 : Nat) (L : List (Int × Int)), j ≤ 2 ∧ i = .int .i64 j ∧ Hid (L = catV l m j) ∧ v = .slice A2 L.length c2 ∧ OwnE 2 encPoint wr w.heap.size 33 v L ∧ Below w.heap.size w wr) (fun _ i _ => 2 - (intOf i).toNat)
      case atStart => exact ⟨0, A1, c1, [], by omega, rfl, Lib.hid rfl, rfl, HO1.out, HB1.out⟩
      case round =>
        obtain ⟨j, A2, c2, L, hj, rfl, hL, rfl, ho, hb⟩ := hrel
        have k0 := (hb.cell (World.block_lt_of_cell? _ _ H0.out)).trans H0.out
        have k1 := (hb.cell (World.block_lt_of_cell? _ _ H1.out)).trans H1.out
        have HO := Lib.hid ho; have HB := Lib.hid hb
        clear ho hb g0 g1 HO1 HB1
        by_cases hj0 : j = 0
        · subst hj0
          have e0 : L.length = 0 := by rw [hL.out]; rfl
          go_wp2_with (at_builtin; refine appPoint _ rfl _ _ rfl w.heap.size _ L rfl HO.out w.heap.size A l.length c l rfl rfl (HS.out.below HB.out) (by omega) HB.out.size ?_; intro A3 c3 L3 w3 hL3 h2 h3 ho3 hb3)
          go_roundw
          case rel => exact ⟨1, A3, c3, L3, by omega, by go_num, Lib.hid (by rw [hL3.out, hL.out]; rfl), rfl, ho3, HB.out.trans hb3⟩
          case measure => simp [intOf]
        · by_cases hj1 : j = 1
          · subst hj1
            have e0 : L.length = l.length := by rw [hL.out]; rfl
            go_wp2_with (at_builtin; refine appPoint _ rfl _ _ rfl w.heap.size _ L rfl HO.out w.heap.size A' m.length c' m rfl rfl (HS'.out.below HB.out) (by omega) HB.out.size ?_; intro A3 c3 L3 w3 hL3 h2 h3 ho3 hb3)
            go_roundw
            case rel => exact ⟨2, A3, c3, L3, by omega, by go_num, Lib.hid (by rw [hL3.out, hL.out]; rfl), rfl, ho3, HB.out.trans hb3⟩
            case measure => simp [intOf]
          · obtain rfl : j = 2 := by omega
            go_wp2
            go_ret
            exact ⟨A2, c2, L, Lib.hid (by rw [hL.out]; rfl), rfl, HO.out, HB.out⟩
/-- The points from the k-th on, and then those before it; all of them, if there is no k-th. -/
def rotV (l : List (Int × Int)) (k : Int) : List (Int × Int) := if inB k 0 ((l.length : Int) - 1) = true then l.drop k.toNat ++ l.take k.toNat else l
theorem concat_at (g n1 n2 : Nat) (A A' : Option Addr) (c c' : Nat) (l m : List (Int × Int)) (w : World) (e1 : l.length = n1) (e2 : m.length = n2) (h0 : w.cell? ⟨g, 0, none⟩ = some (.slice A n1 c)) (h1 : w.cell? ⟨g, 1, none⟩ = some (.slice A' n2 c'))
    (hs : SeesE 2 encPoint w w.heap.size A l) (hs' : SeesE 2 encPoint w w.heap.size A' m) (hl : n1 ≤ 549755813888) (hm : n2 ≤ 549755813888) :
    Calls Tryd.prog 71 #[.slice (some ⟨g, 0, none⟩) 2 2] w (GivesE 2 encPoint 33 (l ++ m) w) := by
  subst e1 e2; exact concat_any g A A' c c' l m w h0 h1 hs hs' hl hm
set_option maxRecDepth 100000 in
set_option maxHeartbeats 4000000 in
theorem rotateRing_any (A : Option Addr) (c : Nat) (l : List (Int × Int)) (k : Int) (w : World) (hs : SeesE 2 encPoint w w.heap.size A l) (hl : l.length ≤ 274877906944) (hlc : l.length ≤ c) (hc : (c : Int) ≤ 9223372036854775807) (hk : (Lit.int .i64 k).wf = true) :
    Calls Tryd.prog 51 #[.slice A l.length c, .int .i64 k] w (GivesE 2 encPoint 33 (rotV l k) w) := by
  have HS := Lib.hid hs; clear hs
  go_enter Tryd.func51, Tryd.ntmps51
  cases hin : inB k 0 ((l.length : Int) - 1)
  · have h0c : ¬ ((c : Int) < 0) := by omega
    have h0l : ¬ ((l.length : Int) < 0) := by omega
    go_wp2_with (first
      | (go_at_call 50; refine (in_is _ _ _ _ _ hin).mono ?_; rintro e w1 ⟨rfl, rfl⟩))
    have HR : Hid (l ++ [] = rotV l k) := Lib.hid (by unfold rotV; rw [if_neg (by rw [hin]; decide), List.append_nil])
    go_region_held3 (fun _ => True) (trivial) (first | (go_at_call 71; refine (concat_at w.heap.size l.length 0 A A c c l [] _ rfl rfl (cell_of_row _ _ 0 _ _ (0, 0) (heap_alloc_new w _)) (cell_of_row _ _ 1 _ _ (0, 0) (heap_alloc_new w _)) (HS.out.alloc (Nat.le_refl _) _ |>.drew |>.mono (by simp)) SeesE.nil (by omega) (by omega)).mono ?_; rintro e w1 ⟨A1, c1, L, hL, rfl, ho1, hb1⟩; have HO1 := Lib.hid ho1; have HB1 := Lib.hid hb1; have HL := hL) | fail)
    all_goals
      go_wp2
      go_ret
      exact ⟨A1, c1, L, Lib.hid (by rw [HL.out, HR.out]), rfl, HO1.out.mono (by simp), ((Below.refl _ w).alloc (Nat.le_refl _) _).drew.trans (HB1.out.mono (by simp))⟩
  · have hk' : 0 ≤ k ∧ k ≤ (l.length : Int) - 1 := by simpa [inB] using hin
    obtain ⟨j, rfl⟩ : ∃ j : Nat, k = (j : Int) := ⟨k.toNat, by omega⟩
    have hjl : j < l.length := by omega
    have hjl' : (j : Int) ≤ (l.length : Int) := by omega
    have hjc' : (j : Int) ≤ (c : Int) := by omega
    go_wp2_with (first
      | (go_at_call 50; refine (in_is _ _ _ _ _ hin).mono ?_; rintro e w1 ⟨rfl, rfl⟩))
    have b1 : (0 : Int) ≤ (j : Int) := by omega
    have b2 : ¬ ((j : Int) < 0) := by omega
    have b3 : ¬ ((c : Int) < (j : Int)) := by omega
    have b4 : ¬ ((l.length : Int) < (j : Int)) := by omega
    have hlc' : ¬ (c = j) := by omega
    have HA : Hid (SeesE 2 encPoint w w.heap.size (if c = j then A else Option.map (fun x => x.add (j * 2)) A) (l.drop j)) := Lib.hid (HS.out.suf j _ (fun _ => if_neg hlc'))
    have HT : Hid (SeesE 2 encPoint w w.heap.size A (l.take j)) := Lib.hid (HS.out.pre j)
    have E1 : Hid ((l.drop j).length = l.length - j) := Lib.hid (by simp)
    have E2 : Hid ((l.take j).length = j) := Lib.hid (by simp; omega)
    have HR : Hid (l.drop j ++ l.take j = rotV l j) := Lib.hid (by unfold rotV; rw [if_pos hin]; simp)
    clear hlc'
    go_region_held3 (fun _ => True) (trivial) (first | (go_at_call 71; refine (concat_at w.heap.size (l.length - j) j _ A (c - j) c (l.drop j) (l.take j) _ E1.out E2.out (cell_of_row _ _ 0 _ _ (0, 0) (heap_alloc_new w _)) (cell_of_row _ _ 1 _ _ (0, 0) (heap_alloc_new w _)) (HA.out.alloc (Nat.le_refl _) _ |>.drew |>.mono (by simp)) (HT.out.alloc (Nat.le_refl _) _ |>.drew |>.mono (by simp)) (by omega) (by omega)).mono ?_; rintro e w1 ⟨A1, c1, L, hL, rfl, ho1, hb1⟩; have HO1 := Lib.hid ho1; have HB1 := Lib.hid hb1; have HL := hL) | fail)
    all_goals
      go_wp2
      go_ret
      exact ⟨A1, c1, L, Lib.hid (by rw [HL.out, HR.out]), rfl, HO1.out.mono (by simp), ((Below.refl _ w).alloc (Nat.le_refl _) _).drew.trans (HB1.out.mono (by simp))⟩
end Go.Proofs.YtbnjaaegbmhopaaDoor
end
section
/- Rings: a ring's segments meet in turn. -/
namespace Go.Proofs.YtbnjaaegbmhopaaDoor
open Go.RowKit
set_option linter.unusedVariables false

theorem howS_ok {u v : Int × Int × Int × Int} (h : howS u v ≠ 0) : sOk u = true ∧ sOk v = true := by
  by_cases hh : isS u.1 u.2.1 u.2.2.1 u.2.2.2 = true ∧ isS v.1 v.2.1 v.2.2.1 v.2.2.2 = true
  · exact hh
  · exact absurd (how_no hh) h
theorem ite_iff {p q : Prop} [Decidable p] [Decidable q] (h : p ↔ q) {a b : Int} : (if p then a else b) = if q then a else b := by
  by_cases hp : p
  · rw [if_pos hp, if_pos (h.1 hp)]
  · rw [if_neg hp, if_neg (fun k => hp (h.2 k))]
theorem turn_cyc {S : List (Int × Int × Int × Int)} : turnV true S = true ↔ CycOk S := by
  unfold turnV
  rw [decide_eq_true_eq]
  constructor
  · intro h
    refine cycOk_of fun i k u v hu hv hk => ?_
    have := h i (List.getElem?_eq_some_iff.1 hu).1 k hk
    rw [prOk_at hv hu, beq_iff_eq, howS_comm] at this
    rw [this]
    unfold wantC
    have e : (k + 1 = i ∨ (true = true ∧ k = 0 ∧ i + 1 = S.length)) ↔ adjC S.length i k := by rw [show (true = true) = True from eq_self true, true_and]; unfold adjC; omega
    exact ite_iff e
  · intro h k hk i hi
    obtain ⟨u, hu⟩ : ∃ u, S[i]? = some u := ⟨_, List.getElem?_eq_getElem (by omega)⟩
    obtain ⟨v, hv⟩ : ∃ v, S[k]? = some v := ⟨_, List.getElem?_eq_getElem hk⟩
    rw [prOk_at hu hv, beq_iff_eq, h i k u v hu hv (by omega)]
    unfold wantC
    have e : adjC S.length i k ↔ (i + 1 = k ∨ (true = true ∧ i = 0 ∧ k + 1 = S.length)) := by rw [show (true = true) = True from eq_self true, true_and]; unfold adjC; omega
    exact ite_iff e
/-- It need not be asked whether each is valid. -/
theorem isRg_turn (l : List (Int × Int)) : isRg l = (inB l.length 3 10 && turnV true (rgS l)) := by
  rw [Bool.eq_iff_iff, isRg_iff, Bool.and_eq_true, turn_cyc]
  have hn := rgS_len l
  constructor
  · rintro ⟨h1, -, h3⟩
    exact ⟨by simp only [inB, decide_eq_true_eq]; omega, h3⟩
  · rintro ⟨h1, h3⟩
    have hl : 3 ≤ l.length ∧ l.length ≤ 10 := by simp only [inB, decide_eq_true_eq] at h1; omega
    refine ⟨hl, fun s hs => ?_, h3⟩
    obtain ⟨i, hi⟩ := List.getElem?_of_mem hs
    have hil := (List.getElem?_eq_some_iff.1 hi).1
    by_cases h0 : i = 0
    · obtain ⟨v, hv⟩ : ∃ v, (rgS l)[1]? = some v := ⟨_, List.getElem?_eq_getElem (by omega)⟩
      have := h3 i 1 s v hi hv (by omega)
      rw [if_pos (by unfold adjC; omega)] at this
      exact (howS_ok (by rw [this]; decide)).1
    · obtain ⟨v, hv⟩ : ∃ v, (rgS l)[i - 1]? = some v := ⟨_, List.getElem?_eq_getElem (by omega)⟩
      have := h3 i (i - 1) s v hi hv (by omega)
      rw [if_pos (by unfold adjC; omega)] at this
      exact (howS_ok (by rw [this]; decide)).1
theorem rotV_zero (l : List (Int × Int)) : rotV l 0 = l := by
  unfold rotV; split
  · simp
  · rfl
end Go.Proofs.YtbnjaaegbmhopaaDoor
end
section
/- Lines: slices.AppendSeq over the iterator, and SegmentsOf of package impl. -/
namespace Go.Proofs.YtbnjaaegbmhopaaDoor
open Go.ChangeShapes Go.WideShapes Go.ChangeAt Go.RowKit Go.Shelf
set_option linter.unusedVariables false
attribute [local go_sem] Oper.semAt_some

theorem newSeg_cells (W : World) (x : Int × Int × Int × Int) (T : TypeId) : ∀ j u, (encSegment x)[j]? = some u → (W.alloc (.cells (sC x) T)).cell? ((⟨W.heap.size, 0, none⟩ : Addr).add j) = some u := fun j u hu => by
  rw [add_none]
  have := (Laid.new W T (sC x)).cell (k := j) (v := u) (by rw [← hu]; exact List.getElem?_toArray)
  simpa using this
theorem cellsSeg_snoc (pre : List (Int × Int × Int × Int)) (x : Int × Int × Int × Int) : cellsE encSegment (pre ++ [x]) = cellsE encSegment pre ++ encSegment x := by rw [cellsE_app]; simp [cellsE]
set_option maxRecDepth 100000 in
set_option maxHeartbeats 4000000 in
theorem appendSeq_any (Bx M n0 c1 : Nat) (A1 : Option Addr) (l : List (Int × Int)) (v0 : Value) (w : World) (bA : Boxed w Bx 25 (.slice A1 l.length c1)) (hs : SeesE 2 encPoint w M A1 l) (hMn : M ≤ n0) (hn0 : n0 ≤ w.heap.size) (hl : l.length ≤ 1000)
    (ho : OwnE 4 encSegment w n0 53 v0 []) :
    Calls Tryd.prog 72 #[v0, .func (.func 73) #[] #[.pointer (some ⟨Bx, 0, none⟩)]] w fun e w' => ∃ v, e = .returned v ∧ OwnE 4 encSegment w' n0 53 v (jts l) ∧ Below n0 w w' := by
  have HO := Lib.hid ho
  refine (callsIn_wide (n := 8)).1 ?_
  refine callsIn_of_wp_marks Tryd.func72 rfl trivial ?_ rfl
  simp only [Tryd.ntmps72, List.size_toArray, List.length_cons, List.length_nil, Nat.reduceAdd, Nat.reduceSub, Array.replicate_succ, Array.replicate_zero, List.push_toArray, List.append_toArray, List.nil_append, List.cons_append]
  have hBl := bA.lt
  have hv1 : v0.oneCell' = true := by obtain ⟨A, c, rfl, -⟩ := OwnE.form ho; rfl
  gi_wp2
  have bS := Boxed.new w 36 v0
  have bA := bA.alloc (.cells #[v0] 36)
  have hB0 : Below n0 w (w.alloc (.cells #[v0] 36)) := (Below.refl _ w).alloc hn0 _
  have hs0 := hs.alloc (Nat.le_trans hMn hn0) (.cells #[v0] 36)
  have ho0 := HO.out.alloc (.cells #[v0] 36)
  have hsz : (w.alloc (.cells #[v0] 36)).heap.size = w.heap.size + 1 := by simp
  obtain ⟨W0, hW0⟩ : ∃ W0, w.alloc (.cells #[v0] 36) = W0 := ⟨_, rfl⟩
  rw [hW0] at bS bA hB0 hsz hs0 ho0 ⊢
  clear hW0
  obtain ⟨i0, hi, hz0, hz1, hz2⟩ := info_parts infoSegment
  refine wpIn_rangeFunc_ownH rfl (by omega) (gf := 73) (lb := #[.pointer (some ⟨Bx, 0, none⟩)]) rfl trivial (enters_of Tryd.func73 (by kernel_rfl) rfl)
    (joints_stops (8 - 1) (by omega) Bx M (fun k => k < M ∨ k = Bx) A1 c1 l (by omega) W0 bA.lt (by omega) (.inr rfl) (fun _ h => .inl h) bA.cell hs0) KpS.t (KpS.book (by intro k hk; have := bA.lt; omega)) (Below.refl _ _) (fun _ => rfl)
    (fun pre W => ((∃ v, Boxed W w.heap.size 36 v ∧ W.ownsRow n0 53 4 v pre.length (cellsE encSegment pre) ∧ True) ∧ Boxed W Bx 25 (.slice A1 l.length c1)) ∧ Below n0 w W)
    (fun _ _ _ => False)
    (OwnFrom.and (OwnFrom.and (Own.from (holdsRow_own n0 w.heap.size 36 53 4 (fun pre => pre.length) (fun pre => cellsE encSegment pre) (fun _ _ => True)) _) (Own.from (boxed_own _ _ _) _)) (ownFrom_below hn0 (by omega)))
    (fun cc _ _ _ _ hs _ _ => hs)
    ⟨⟨⟨v0, bS, ho0, trivial⟩, bA⟩, hB0⟩
    (fun x a' W => ∃ By, w.heap.size < By ∧ Laid W By 53 (sC x) ∧ a' = { tmps := #[v0, .func (.func 73) #[] #[.pointer (some ⟨Bx, 0, none⟩)], .pointer (some ⟨w.heap.size, 0, none⟩), undef, .slice none 0 0, .pointer (some ⟨By, 0, none⟩), .func (.func 73) #[] #[.pointer (some ⟨Bx, 0, none⟩)], sV x, undef, undef, undef, undef, undef], defers := [] })
    (fun x a' _ X Y row hs hg hr => by obtain ⟨Bx, h1, h2, h3⟩ := hs; exact ⟨Bx, h1, laid_own Bx 53 (fun (_ : Unit) => sC x) () X Y row h2 hg (fun r e => (hr r e).2), h3⟩)
    ?assign ?body ?done ?stop
  case assign =>
    rintro y pre x W K ⟨⟨⟨v, bS1, hr1, -⟩, bA1⟩, hB1⟩ hK
    gi_wp2
    exact hK _ _ ((KeepsOthers.alloc _ _).from _) (KpS.alloc _ _) ⟨⟨⟨v, bS1.alloc _, hr1.alloc _, trivial⟩, bA1.alloc _⟩, hB1.alloc (Nat.le_trans hn0 (by have := bS1.lt; omega)) _⟩ ⟨W.heap.size, bS1.lt, Laid.new W _ _, rfl⟩
  case body =>
    rintro y pre x a' W hy hr ⟨⟨⟨v, hv, hrow, -⟩, bA1⟩, hB1⟩ ⟨By, hBy, bX, rfl⟩ hlt
    obtain ⟨x0, x1, x2, x3⟩ := bX.c4
    have hc := hv.cell
    have hnW : n0 ≤ W.heap.size := Nat.le_trans hn0 (by have := hv.lt; omega)
    have hpl : pre.length ≤ 1000 := by rw [jts_len] at hlt; omega
    gi_wp2_with (gi_at_builtin; refine wpListIn_append_own _ rfl _ _ 36 rfl n0 53 i0 _ 4 32 Tryd.underlying36 hi hz0 hz1 hz2 rfl (by decide) _ _ _ rfl (hrow.alloc _) ⟨W.heap.size, 0, none⟩ 1 1 (encSegment x) rfl rfl (newSeg_cells _ _ _) (elSegment.2 x).2 (by simp only [maxLen]; omega) (by omega) (by simp; omega) ?_; intro v' w1 hown' hgrow _; obtain ⟨g', cap', rfl⟩ := ownsRow_succ hown'; obtain ⟨hv1, hv2, hr2, hk2, hb2⟩ := hv.appended (by decide) hrow hnW hn0 hown' hgrow; have hc1 := hv1.cell; have hf1 := hv1.frozen)
    refine ⟨hk2.from _, ((KpS.alloc W _).trans (KpS.grown hgrow fun k e hk => ?_)).trans (KpS.setCell _ _ _ fun hk => ?_), ⟨⟨_, hv2, ?_, trivial⟩, ((bA1.alloc _).kept hgrow (bA1.not_row (by decide) hrow)).other (by omega) _⟩, hB1.trans hb2⟩
    · have h1 := (World.ownsRow.lt hrow k e).1
      rcases hk with hk | hk
      · omega
      · subst hk; exact bA1.not_row (by decide) hrow e.symm
    · dsimp only at hk; omega
    · rw [cellsSeg_snoc, List.length_append]; exact hr2
  case done =>
    rintro D zs W hD rfl ⟨⟨⟨v, hv, hrow, -⟩, bA1⟩, hB1⟩ hK
    have hc := hv.cell
    gi_wp2
    refine ⟨by simp, .inl ⟨_, _, rfl, run_takeDeferred hK, ?_⟩⟩
    exact ⟨_, results_tmp rfl _ _ _, v, rfl, ownsRow_putObj hrow _ hK rfl, hB1.trans (belowK_b (w := w) hn0 W D _ _ (by omega) hK rfl rfl)⟩
  case stop =>
    rintro D cc pre W _ _ h _
    exact h.elim
set_option maxRecDepth 100000 in
theorem segmentsOf_any (A : Option Addr) (c : Nat) (l : List (Int × Int)) (w : World) (hs : SeesE 2 encPoint w w.heap.size A l) (hl : l.length ≤ 1099511627776) :
    Calls Tryd.prog 70 #[.slice A l.length c] w (GivesE 4 encSegment 53 (sgV l) w) := by
  have HS := Lib.hid hs; clear hs
  go_enter Tryd.func70, Tryd.ntmps70
  go_wp2_with (first
    | (go_at_call 94; refine (walkLine_any A c l _ w.heap.size (by simp) (HS.out.alloc (Nat.le_refl _) _) hl).mono ?_; rintro e w1 ⟨Bx, A1, c1, rfl, hBx, bA, hS1, hB1⟩)
    | (go_at_call 72; refine (appendSeq_any Bx w.heap.size w.heap.size c1 A1 (lnV l) _ w1 bA hS1 (Nat.le_refl _) (Nat.le_trans (by simp) hB1.size) (by have := lnV_len l; omega) ((OwnE.lit w w.heap.size 53 (Nat.le_refl _)).belowAll hB1)).mono ?_; rintro e w2 ⟨v, rfl, ho2, hB2⟩))
  go_ret
  obtain ⟨A2, c2, rfl, -, -⟩ := ho2.form
  exact ⟨A2, c2, _, Lib.hid rfl, rfl, ho2, (((Below.refl _ w).alloc (Nat.le_refl _) _).trans (hB1.mono (by simp))).trans hB2⟩
end Go.Proofs.YtbnjaaegbmhopaaDoor
end
section
/- append of points and of segments as one step of a drawn region. -/
namespace Go.Proofs.YtbnjaaegbmhopaaDoor
open Go.ChangeShapes Go.WideShapes Go.ChangeAt Go.RowKit
set_option linter.unusedVariables false

theorem stepPt (w : World) {o : Oper} {a : Act} {K : Act → World → Prop} {Q : Exit → Act → World → Prop} (s x : Operand)
    (ho : o.op = .call { callee := .builtin .append, args := #[s, x], argTypes := #[25, 25] })
    (base : Nat) (v : Value) (l : List (Int × Int)) (hv : a.eval s = v) (hown : OwnE 2 encPoint w base 33 v l)
    (B : Nat) (A : Option Addr) (m c : Nat) (l2 : List (Int × Int)) (hx : a.eval x = .slice A m c) (hm : m = l2.length) (hs : SeesE 2 encPoint w B A l2) (h63 : l.length + l2.length ≤ 1099511627776) (hbase : base ≤ w.heap.size)
    (h : ∀ A' c' L w', Hid (L = l ++ l2) → L.length ≤ l.length + l2.length → l.length + l2.length ≤ L.length → OwnE 2 encPoint w' base 33 (.slice A' L.length c') L → Below base w w' → K (a.put o.dst (.slice A' L.length c')) w') :
    o.wp Tryd.prog a w K Q := by
  obtain ⟨i, hi, hz, h1, h2⟩ := info_parts infoPoint
  exact wp_appE w elPoint s x _ ho _ i _ 16 Tryd.underlying25 hi hz h1 h2 rfl base v l hv hown B A m c l2 hx hm hs h63 (by decide) hbase h
theorem stepSg (w : World) {o : Oper} {a : Act} {K : Act → World → Prop} {Q : Exit → Act → World → Prop} (s x : Operand)
    (ho : o.op = .call { callee := .builtin .append, args := #[s, x], argTypes := #[36, 36] })
    (base : Nat) (v : Value) (l : List (Int × Int × Int × Int)) (hv : a.eval s = v) (hown : OwnE 4 encSegment w base 53 v l)
    (B : Nat) (A : Option Addr) (m c : Nat) (l2 : List (Int × Int × Int × Int)) (hx : a.eval x = .slice A m c) (hm : m = l2.length) (hs : SeesE 4 encSegment w B A l2) (h63 : l.length + l2.length ≤ 1099511627776) (hbase : base ≤ w.heap.size)
    (h : ∀ A' c' L w', Hid (L = l ++ l2) → L.length ≤ l.length + l2.length → l.length + l2.length ≤ L.length → OwnE 4 encSegment w' base 53 (.slice A' L.length c') L → Below base w w' → K (a.put o.dst (.slice A' L.length c')) w') :
    o.wp Tryd.prog a w K Q := by
  obtain ⟨i, hi, hz, h1, h2⟩ := info_parts infoSegment
  exact wp_appE w elSegment s x _ ho _ i _ 32 Tryd.underlying36 hi hz h1 h2 rfl base v l hv hown B A m c l2 hx hm hs h63 (by decide) hbase h
end Go.Proofs.YtbnjaaegbmhopaaDoor
end
section
/- errors.Is at a sentinel of errors.New's make: the sentinel itself, and nil. -/
namespace Go.Proofs.YtbnjaaegbmhopaaDoor
open Go.RowKit Go.Extern.Stop Go.Stop Go.Extern

theorem isTypeOf (v : Value) (w : World) : (Extern.ReflectliteType.typeOf #[.iface 162 v]).run Tryd.prog w = .ok (.iface 95 (.agg #[.pointer (some ⟨1, 162, none⟩)])) w := by kernel_rfl
theorem isComparable (w : World) : ((Extern.ReflectliteType.method fun t => do Extern.Rtype.noPackHeld "Comparable" t; pure (Value.bool (← typeInfo t).comparable)) #[.agg #[.pointer (some ⟨1, 162, none⟩)]]).run Tryd.prog w = .ok (.bool true) w := by kernel_rfl
theorem compCall (w : World) : (callFunc 140 #[.agg #[.pointer (some ⟨1, 162, none⟩)]]).run Tryd.prog w = .ok (.value (.bool true)) w := by
  have h := @run_callFunc_extern Tryd.prog 140 _ (Extern.ReflectliteType.method fun t => do Extern.Rtype.noPackHeld "Comparable" t; pure (Value.bool (← typeInfo t).comparable)) Tryd.func140 (by kernel_rfl) (by kernel_rfl) (by kernel_rfl) (by kernel_rfl)
  rw [h, isComparable]; rfl
set_option maxRecDepth 100000 in
theorem isMethodComparable (v : Value) (w : World) : (Go.method 299 95 v "Comparable").run Tryd.prog w = .ok (140, v) w := by kernel_rfl
theorem isComp : (Tryd.prog.info? 162).map (·.comparable) = some true := by kernel_rfl
theorem isSize : (Tryd.prog.info? 187).map (·.size) = some 1 := by kernel_rfl
-- errors.Is(x, x), x a pointer to an errors.errorString.
set_option maxRecDepth 100000 in
theorem is_same (a : Addr) (w : World) :
    Calls Tryd.prog 34 #[.iface 162 (.pointer (some a)), .iface 162 (.pointer (some a))] w fun e w' => e = .returned (.bool true) ∧ w' = w := by
  obtain ⟨i, hi, hcmp⟩ := Option.map_eq_some_iff.1 isComp
  obtain ⟨j, hj, hjs⟩ := Option.map_eq_some_iff.1 isSize
  have h8 := @run_callFunc_extern Tryd.prog 55 _ Extern.ReflectliteType.typeOf Tryd.func55 (by kernel_rfl) (by kernel_rfl) (by kernel_rfl) (by kernel_rfl)
  have tT := isTypeOf
  have cT := compCall
  have mR := isMethodComparable
  have heq := run_eql_iface_ptr_same (P := Tryd.prog) w a Tryd.underlying56 Tryd.underlying162 hi hcmp hj
  go_enter Tryd.func34, Tryd.ntmps34
  go_wp2
  refine wp_loop_rounds 1 ?_
  rw [rounds_succ]
  go_wp2
  go_ret
  exact ⟨rfl, rfl⟩
-- errors.Is(nil, x).
set_option maxRecDepth 100000 in
theorem is_nil (b : Addr) (w : World) :
    Calls Tryd.prog 34 #[.nilIface, .iface 162 (.pointer (some b))] w fun e w' => e = .returned (.bool false) ∧ w' = w := by
  have hn := run_eql_iface_nil_left (P := Tryd.prog) w 162 (.pointer (some b)) Tryd.underlying56
  go_enter Tryd.func34, Tryd.ntmps34
  go_wp2
  go_ret
  exact ⟨rfl, rfl⟩
end Go.Proofs.YtbnjaaegbmhopaaDoor
end
section
/- joinRing of package impl: the segments of a ring, or the sentinel. -/
namespace Go.Proofs.YtbnjaaegbmhopaaDoor
open Go.ChangeShapes Go.WideShapes Go.ChangeAt Go.RowKit
set_option linter.unusedVariables false

/-- The variable errNoRing holds a pointer to an error of errors.New's make. -/
def ErrAt (a0 : Addr) (w : World) : Prop := w.cell? ⟨0, 0, none⟩ = some (.iface 162 (.pointer (some a0)))
section
variable {a0 : Addr} {w w' : World}
theorem ErrAt.lt (h : ErrAt a0 w) : 0 < w.heap.size := World.block_lt_of_cell? _ _ h
theorem ErrAt.below {B : Nat} (h : ErrAt a0 w) (hb : Below B w w') (hB : 0 < B) : ErrAt a0 w' := (hb.cell (p := ⟨0, 0, none⟩) hB).trans h
theorem ErrAt.all (h : ErrAt a0 w) (hb : Below w.heap.size w w') : ErrAt a0 w' := h.below hb h.lt
theorem ErrAt.drew (h : ErrAt a0 w) : ErrAt a0 w.drew := h
theorem ErrAt.alloc (h : ErrAt a0 w) (o : Obj) : ErrAt a0 (w.alloc o) := h.all ((Below.refl _ w).alloc (Nat.le_refl _) o)
end
set_option maxRecDepth 100000 in
set_option maxHeartbeats 1000000 in
theorem collect_any (Bx c1 : Nat) (A1 : Option Addr) (l : List (Int × Int)) (w : World) (M : Nat) (bA : Boxed w Bx 25 (.slice A1 l.length c1)) (hs : SeesE 2 encPoint w M A1 l) (hM : M ≤ w.heap.size) (hl : l.length ≤ 1000) :
    Calls Tryd.prog 52 #[.func (.func 73) #[] #[.pointer (some ⟨Bx, 0, none⟩)]] w fun e w' => ∃ v, e = .returned v ∧ OwnE 4 encSegment w' w.heap.size 53 v (jts l) ∧ Below w.heap.size w w' := by
  have HS := Lib.hid hs; have HA := Lib.hid bA
  clear hs bA
  go_enter Tryd.func52, Tryd.ntmps52
  go_wp2_with (go_at_call 72; refine (appendSeq_any Bx M w.heap.size c1 A1 l _ _ HA.out HS.out hM (Nat.le_refl _) hl (OwnE.nil _ _ _)).mono ?_; rintro e w2 ⟨v, rfl, ho2, hB2⟩)
  go_ret
  exact ⟨v, rfl, ho2, hB2⟩
/-- What joinRing gives. -/
def JoinOf (a0 : Addr) (l : List (Int × Int)) (w : World) (e : Ending) (w' : World) : Prop :=
  (isRg l = true ∧ ∃ A c L, Hid (L = rgS l) ∧ e = .returned (.tuple #[.slice A L.length c, .nilIface]) ∧ OwnE 4 encSegment w' w.heap.size 53 (.slice A L.length c) L ∧ Below w.heap.size w w') ∨
  (isRg l = false ∧ e = .returned (.tuple #[.slice none 0 0, .iface 162 (.pointer (some a0))]) ∧ Below w.heap.size w w')
set_option maxRecDepth 100000 in
set_option maxHeartbeats 1000000 in
theorem joinRing_any (a0 : Addr) (A : Option Addr) (c : Nat) (l : List (Int × Int)) (w : World) (hE : ErrAt a0 w) (hs : SeesE 2 encPoint w w.heap.size A l) (hl : l.length ≤ 274877906944) (hlc : l.length ≤ c) (hc : (c : Int) ≤ 9223372036854775807) :
    Calls Tryd.prog 33 #[.slice A l.length c] w (JoinOf a0 l w) := by
  have HS := Lib.hid hs; clear hs
  have HE := Lib.hid hE
  go_enter Tryd.func33, Tryd.ntmps33
  cases hin : inB l.length 3 10
  · have HN : Hid (isRg l = false) := Lib.hid (by rw [isRg_turn, hin]; rfl)
    have hE1 : w.drew.cell? ⟨0, 0, none⟩ = some (.iface 162 (.pointer (some a0))) := hE.drew
    unfold ErrAt at hE
    go_wp2_with (go_at_call 50; refine (in_is _ _ _ _ _ hin).mono ?_; rintro e w1 ⟨rfl, rfl⟩)
    go_region_with (fail)
    all_goals
      go_wp2
      go_ret2
      exact .inr ⟨HN.out, rfl, (Below.refl _ w).drew⟩
  · have h310 : 3 ≤ l.length ∧ l.length ≤ 10 := by simp only [inB, decide_eq_true_eq] at hin; omega
    obtain ⟨⟨x, y⟩, hx⟩ : ∃ p, l[0]? = some p := ⟨_, List.getElem?_eq_getElem (by omega)⟩
    obtain ⟨b, off, rfl, hb, -⟩ := HS.out 0 _ hx
    obtain ⟨k0', k1'⟩ := cellsPoint HS.out hx
    have k0 : w.cell? ⟨b, off, none⟩ = some (.int .i64 x) := by simpa using k0'
    have k1 : w.cell? ⟨b, off + 1, none⟩ = some (.int .i64 y) := by simpa using k1'
    clear k0' k1'
    have d0 : (w.alloc (.cells #[.int .i64 x, .int .i64 y] 33)).drew.cell? ⟨b, off, none⟩ = some (.int .i64 x) := (((Below.refl w.heap.size w).alloc (Nat.le_refl _) _).cell (p := ⟨b, off, none⟩) hb).trans k0
    have d1 : (w.alloc (.cells #[.int .i64 x, .int .i64 y] 33)).drew.cell? ⟨b, off + 1, none⟩ = some (.int .i64 y) := (((Below.refl w.heap.size w).alloc (Nat.le_refl _) _).cell (p := ⟨b, off + 1, none⟩) hb).trans k1
    have e0 : w.drew.cell? ⟨b, off, none⟩ = some (.int .i64 x) := k0
    have e1 : w.drew.cell? ⟨b, off + 1, none⟩ = some (.int .i64 y) := k1
    have D0 := Lib.hid d0; have D1 := Lib.hid d1; have E0 := Lib.hid e0; have E1 := Lib.hid e1
    have HB1 : Hid (Below w.heap.size w (w.alloc (.cells #[.int .i64 x, .int .i64 y] 33)).drew) := Lib.hid (((Below.refl _ w).alloc (Nat.le_refl _) _).drew)
    have HS1 : Hid (SeesE 2 encPoint w.drew w.drew.heap.size (some ⟨b, off, none⟩) l) := Lib.hid HS.out.drew
    have HS2 : Hid (SeesE 2 encPoint (w.alloc (.cells #[.int .i64 x, .int .i64 y] 33)).drew (w.alloc (.cells #[.int .i64 x, .int .i64 y] 33)).drew.heap.size (some ⟨b, off, none⟩) l) := Lib.hid ((HS.out.below HB1.out).mono HB1.out.size)
    have HX2 : Hid (SeesE 2 encPoint (w.alloc (.cells #[.int .i64 x, .int .i64 y] 33)).drew (w.alloc (.cells #[.int .i64 x, .int .i64 y] 33)).drew.heap.size (some ⟨w.heap.size, 0, none⟩) [(x, y)]) := Lib.hid ((seesE_new elPoint w (x, y) #[.int .i64 x, .int .i64 y] 33 _ (by show _ < (w.alloc _).heap.size; simp) rfl).drew)
    have HT : Hid (rgS l = jts (rotV l 0 ++ [(x, y)])) := Lib.hid (by
      rw [rotV_zero, rgS]
      cases l with
      | nil => simp at hx
      | cons p t => simp at hx; rw [hx]; rfl)
    have HR : Hid ((rotV l 0).length = l.length) := Lib.hid (by rw [rotV_zero])
    have h9 : l.length ≤ 10 := h310.2
    have HZ : Hid (isRg l = turnV true (rgS l)) := Lib.hid (by rw [isRg_turn, hin, Bool.true_and])
    have i0 : (0 : Int) < (l.length : Int) := by omega
    have i1 : 0 < l.length := by omega
    clear d0 d1 e0 e1 hx h310
    go_wp2_with (go_at_call 50; refine (in_is _ _ _ _ _ hin).mono ?_; rintro e w1 ⟨rfl, rfl⟩)
    go_region_held3 (fun w' => w'.cell? ⟨b, off, none⟩ = some (.int .i64 x) ∧ w'.cell? ⟨b, off + 1, none⟩ = some (.int .i64 y)) (first | with_reducible exact ⟨k0, k1⟩ | with_reducible exact ⟨E0.out, E1.out⟩ | with_reducible exact ⟨D0.out, D1.out⟩ | with_reducible exact hQ.out | with_reducible exact hQ2.out | with_reducible exact hQ3.out) (first
      | (go_at_call 51; refine (rotateRing_any _ c l 0 _ HS1.out hl hlc hc rfl).mono ?_; rintro e w1 ⟨A1, c1, L, hL, rfl, ho1, hb1⟩; have HL := hL; have HO1 := Lib.hid (ho1.alloc (.cells #[.int .i64 x, .int .i64 y] 33)); have hw1 : w.heap.size ≤ w1.heap.size := hb1.size; have HW1 : w.heap.size ≤ (w1.alloc (.cells #[.int .i64 x, .int .i64 y] 33)).heap.size := Nat.le_trans hw1 (by simp); have HX1 := Lib.hid (seesE_new elPoint w1 (x, y) #[.int .i64 x, .int .i64 y] 33 (w1.heap.size + 1) (Nat.lt_succ_self _) rfl); have HL63 : L.length + [(x, y)].length ≤ 1099511627776 := (by rw [HL.out, HR.out]; show l.length + 1 ≤ _; omega); have HBX := Lib.hid (((Below.refl _ w).drew.trans hb1).alloc hw1 (.cells #[.int .i64 x, .int .i64 y] 33)); have hQ := Lib.hid (And.intro ((hb1.cell (World.block_lt_of_cell? _ _ E0.out)).trans E0.out) ((hb1.cell (World.block_lt_of_cell? _ _ E1.out)).trans E1.out)); have hQ2 := Lib.hid (And.intro ((((Below.refl w1.heap.size w1).alloc (Nat.le_refl _) (.cells #[.int .i64 x, .int .i64 y] 33)).cell (World.block_lt_of_cell? _ _ hQ.out.1)).trans hQ.out.1) ((((Below.refl w1.heap.size w1).alloc (Nat.le_refl _) (.cells #[.int .i64 x, .int .i64 y] 33)).cell (World.block_lt_of_cell? _ _ hQ.out.2)).trans hQ.out.2)))
      | (go_at_call 51; refine (rotateRing_any _ c l 0 _ HS2.out hl hlc hc rfl).mono ?_; rintro e w1 ⟨A1, c1, L, hL, rfl, ho1, hb1⟩; have HL := hL; have HO2 := Lib.hid (ho1.mono HB1.out.size); have HW2 : w.heap.size ≤ w1.heap.size := Nat.le_trans HB1.out.size hb1.size; have HX3 := Lib.hid (HX2.out.below hb1); have HL63 : L.length + [(x, y)].length ≤ 1099511627776 := (by rw [HL.out, HR.out]; show l.length + 1 ≤ _; omega); have HBY := Lib.hid (HB1.out.trans (hb1.mono HB1.out.size)); have hQ := Lib.hid (And.intro ((hb1.cell (World.block_lt_of_cell? _ _ D0.out)).trans D0.out) ((hb1.cell (World.block_lt_of_cell? _ _ D1.out)).trans D1.out)))
      | (refine stepPt (w1.alloc (.cells #[.int .i64 x, .int .i64 y] 33)) _ _ (by rfl) w.heap.size _ L (by rfl) HO1.out (w1.heap.size + 1) (some ⟨w1.heap.size, 0, none⟩) 1 1 [(x, y)] (by rfl) (by rfl) HX1.out HL63 HW1 ?_; intro A3 c3 L3 w3 hL3 h2 h3 ho3 hb3; have HL3 : Hid (jts L3 = rgS l) := Lib.hid (by rw [hL3.out, HL.out]; exact HT.out.symm); have HO3 := Lib.hid ho3; have h11 : L3.length ≤ 1000 := (by rw [HL.out, HR.out] at h2; simp only [List.length_singleton] at h2; omega); have HBB := Lib.hid (HBX.out.trans hb3); have hQ3 := Lib.hid (And.intro ((hb3.cell hb).trans hQ2.out.1) ((hb3.cell hb).trans hQ2.out.2)))
      | (refine stepPt w1 _ _ (by rfl) w.heap.size _ L (by rfl) HO2.out (w.alloc (.cells #[.int .i64 x, .int .i64 y] 33)).drew.heap.size (some ⟨w.heap.size, 0, none⟩) 1 1 [(x, y)] (by rfl) (by rfl) HX3.out HL63 HW2 ?_; intro A3 c3 L3 w3 hL3 h2 h3 ho3 hb3; have HL3 : Hid (jts L3 = rgS l) := Lib.hid (by rw [hL3.out, HL.out]; exact HT.out.symm); have HO3 := Lib.hid ho3; have h11 : L3.length ≤ 1000 := (by rw [HL.out, HR.out] at h2; simp only [List.length_singleton] at h2; omega); have HBB := Lib.hid (HBY.out.trans hb3); have hQ3 := Lib.hid (And.intro ((hb3.cell hb).trans hQ.out.1) ((hb3.cell hb).trans hQ.out.2))) | fail)
    all_goals
      go_wp2_with (first
        | (go_at_call 53; refine (jointsOf_any A3 L3.length c3 _).mono ?_; rintro e w4 ⟨rfl, rfl⟩)
        | (go_at_call 52; refine (collect_any w3.heap.size c3 A3 L3 _ w3.heap.size (Boxed.new w3 _ _) ((HO3.out.sees elPoint).alloc (Nat.le_refl _) _) (by simp) h11).mono ?_; rintro e w5 ⟨v, rfl, ho5, hb5⟩; obtain ⟨L5, hL5⟩ : ∃ L5, jts L3 = L5 := ⟨_, rfl⟩; rw [hL5] at ho5; obtain ⟨A5, c5, rfl, -, -⟩ := ho5.form; have HL5 : Hid (L5 = rgS l) := Lib.hid (by rw [← hL5]; exact HL3.out); have HO5 := Lib.hid (ho5.mono (C := w.heap.size) (by simp; exact Nat.le_trans HBB.out.size (by omega))); have HB5 := Lib.hid ((HBB.out.alloc HBB.out.size (.cells #[.slice A3 L3.length c3] 25)).trans (hb5.mono (by simp; exact Nat.le_trans HBB.out.size (by omega))))))
      have h9 : L5.length ≤ 1000 := by rw [HL5.out, rgS_len]; omega
      have HE5 : Hid (ErrAt a0 w5) := Lib.hid (HE.out.all HB5.out)
      cases hz : turnV true L5
      · have HN : Hid (isRg l = false) := Lib.hid (by rw [HZ.out, ← HL5.out]; exact hz)
        refine (meetInTurn_is A5 c5 true L5 _ (HO5.out.sees elSegment) h9 _ hz).mono ?_
        rintro e w6 ⟨rfl, hb6⟩
        have HE6 : ErrAt a0 w6 := HE5.out.all hb6
        have HB6 := Lib.hid (HB5.out.trans (hb6.mono HB5.out.size))
        unfold ErrAt at HE6
        clear hb6
        go_wp2
        go_region_with (fail)
        all_goals
          go_wp2
          go_ret2
          exact .inr ⟨HN.out, rfl, HB6.out.drew⟩
      · have HN : Hid (isRg l = true) := Lib.hid (by rw [HZ.out, ← HL5.out]; exact hz)
        refine (meetInTurn_is A5 c5 true L5 _ (HO5.out.sees elSegment) h9 _ hz).mono ?_
        rintro e w6 ⟨rfl, hb6⟩
        have HB6 := Lib.hid (HB5.out.trans (hb6.mono HB5.out.size))
        have HO6 := Lib.hid (HO5.out.belowAll hb6)
        clear hb6
        go_wp2
        go_ret2
        exact .inl ⟨HN.out, A5, c5, L5, HL5, rfl, HO6.out, HB6.out⟩
end Go.Proofs.YtbnjaaegbmhopaaDoor
end
section
/- IsRing, TwiceArea and RingSegments of package impl. -/
namespace Go.Proofs.YtbnjaaegbmhopaaDoor
open Go.ChangeShapes Go.WideShapes Go.ChangeAt Go.RowKit
set_option linter.unusedVariables false

theorem joinRing_yes (a0 : Addr) (A : Option Addr) (c : Nat) (l : List (Int × Int)) (w : World) (hE : ErrAt a0 w) (hs : SeesE 2 encPoint w w.heap.size A l) (hl : l.length ≤ 274877906944) (hlc : l.length ≤ c) (hc : (c : Int) ≤ 9223372036854775807) (hz : isRg l = true) :
    Calls Tryd.prog 33 #[.slice A l.length c] w fun e w' => ∃ A c L, Hid (L = rgS l) ∧ e = .returned (.tuple #[.slice A L.length c, .nilIface]) ∧ OwnE 4 encSegment w' w.heap.size 53 (.slice A L.length c) L ∧ Below w.heap.size w w' :=
  (joinRing_any a0 A c l w hE hs hl hlc hc).mono fun e w' h => h.elim (fun h => h.2) (fun h => absurd (hz.symm.trans h.1) (by decide))
theorem joinRing_no (a0 : Addr) (A : Option Addr) (c : Nat) (l : List (Int × Int)) (w : World) (hE : ErrAt a0 w) (hs : SeesE 2 encPoint w w.heap.size A l) (hl : l.length ≤ 274877906944) (hlc : l.length ≤ c) (hc : (c : Int) ≤ 9223372036854775807) (hz : isRg l = false) :
    Calls Tryd.prog 33 #[.slice A l.length c] w fun e w' => e = .returned (.tuple #[.slice none 0 0, .iface 162 (.pointer (some a0))]) ∧ Below w.heap.size w w' :=
  (joinRing_any a0 A c l w hE hs hl hlc hc).mono fun e w' h => h.elim (fun h => absurd (hz.symm.trans h.1) (by decide)) (fun h => h.2)
set_option maxRecDepth 100000 in
set_option maxHeartbeats 1000000 in
theorem isRing_is (a0 : Addr) (A : Option Addr) (c : Nat) (l : List (Int × Int)) (w : World) (hE : ErrAt a0 w) (hs : SeesE 2 encPoint w w.heap.size A l) (hl : l.length ≤ 274877906944) (hlc : l.length ≤ c) (hc : (c : Int) ≤ 9223372036854775807) (z : Bool) (hz : isRg l = z) :
    Calls Tryd.prog 11 #[.slice A l.length c] w fun e w' => e = .returned (.bool z) ∧ Below w.heap.size w w' := by
  have HE := Lib.hid hE
  have HS := Lib.hid hs
  clear hE hs
  go_enter Tryd.func11, Tryd.ntmps11
  cases z
  · go_wp2_with fail
    refine (joinRing_no a0 A c l _ HE.out HS.out hl hlc hc hz).mono ?_
    rintro e w1 ⟨rfl, hb1⟩
    have hE1 : ErrAt a0 w1 := HE.out.all hb1
    unfold ErrAt at hE1
    have HB1 := Lib.hid hb1
    clear hb1
    go_wp2_with (go_at_call 34; refine (is_same a0 _).mono ?_; rintro e w2 ⟨rfl, rfl⟩)
    go_ret
    exact ⟨rfl, HB1.out⟩
  · go_wp2_with fail
    refine (joinRing_yes a0 A c l _ HE.out HS.out hl hlc hc hz).mono ?_
    rintro e w1 ⟨A1, c1, L, hL, rfl, ho1, hb1⟩
    have hE1 : ErrAt a0 w1 := HE.out.all hb1
    unfold ErrAt at hE1
    have HB1 := Lib.hid hb1; have HO1 := Lib.hid ho1; have HL := hL
    clear hb1 ho1 hL
    go_wp2_with (go_at_call 34; refine (is_nil a0 _).mono ?_; rintro e w2 ⟨rfl, rfl⟩)
    go_ret
    exact ⟨rfl, HB1.out⟩
/-- The ring's segments, or none. -/
def rsV (l : List (Int × Int)) : List (Int × Int × Int × Int) := if isRg l = true then rgS l else []
theorem rsV_len (l : List (Int × Int)) : (rsV l).length ≤ l.length := by
  unfold rsV; split
  · rw [rgS_len]; exact Nat.le_refl _
  · simp
set_option maxRecDepth 100000 in
set_option maxHeartbeats 1000000 in
theorem ringSegments_any (a0 : Addr) (A : Option Addr) (c : Nat) (l : List (Int × Int)) (w : World) (hE : ErrAt a0 w) (hs : SeesE 2 encPoint w w.heap.size A l) (hl : l.length ≤ 274877906944) (hlc : l.length ≤ c) (hc : (c : Int) ≤ 9223372036854775807) :
    Calls Tryd.prog 19 #[.slice A l.length c] w (GivesE 4 encSegment 53 (rsV l) w) := by
  have HE := Lib.hid hE
  have HS := Lib.hid hs
  clear hE hs
  cases hz : isRg l
  · have HV : Hid (rsV l = []) := Lib.hid (by unfold rsV; rw [hz]; rfl)
    go_enter Tryd.func19, Tryd.ntmps19
    go_wp2_with fail
    refine (joinRing_no a0 A c l _ HE.out HS.out hl hlc hc hz).mono ?_
    rintro e w1 ⟨rfl, hb1⟩
    have hE1 : ErrAt a0 w1 := HE.out.all hb1
    unfold ErrAt at hE1
    have HB1 := Lib.hid hb1
    clear hb1
    go_wp2_with (go_at_call 34; refine (is_same a0 _).mono ?_; rintro e w2 ⟨rfl, rfl⟩)
    go_ret
    exact ⟨_, _, [], Lib.hid HV.out.symm, rfl, (OwnE.lit w2 w2.heap.size 53 (Nat.le_refl _)).mono HB1.out.size, HB1.out.alloc HB1.out.size _⟩
  · have HV : Hid (rsV l = rgS l) := Lib.hid (by unfold rsV; rw [hz]; rfl)
    go_enter Tryd.func19, Tryd.ntmps19
    go_wp2_with fail
    refine (joinRing_yes a0 A c l _ HE.out HS.out hl hlc hc hz).mono ?_
    rintro e w1 ⟨A1, c1, L, hL, rfl, ho1, hb1⟩
    have hE1 : ErrAt a0 w1 := HE.out.all hb1
    unfold ErrAt at hE1
    have HB1 := Lib.hid hb1; have HO1 := Lib.hid ho1; have HL := hL
    clear hb1 ho1 hL
    go_wp2_with (go_at_call 34; refine (is_nil a0 _).mono ?_; rintro e w2 ⟨rfl, rfl⟩)
    go_ret
    exact ⟨A1, c1, L, Lib.hid (by rw [HL.out, HV.out]), rfl, HO1.out, HB1.out⟩
/-- The area's sum. -/
def arV (S : List (Int × Int × Int × Int)) : Int := (S.map arS).sum
theorem arV_take {S : List (Int × Int × Int × Int)} {j : Nat} {x : Int × Int × Int × Int} (h : S[j]? = some x) : arV (S.take j) + arS x = arV (S.take (j + 1)) := by
  unfold arV
  rw [List.take_add_one, h, List.map_append, List.sum_append]
  simp
theorem arS_bd {x : Int × Int × Int × Int} (h : sOk x = true) : (0 ≤ x.1 * x.2.2.2 ∧ x.1 * x.2.2.2 ≤ 40000) ∧ (0 ≤ x.2.1 * x.2.2.1 ∧ x.2.1 * x.2.2.1 ≤ 40000) := by
  obtain ⟨h1, h2, -⟩ := isS_at h
  exact ⟨⟨Int.mul_nonneg h1.1 h2.2.2.1, Int.le_trans (Int.mul_le_mul h1.2.1 h2.2.2.2 h2.2.2.1 (by omega)) (by omega)⟩, ⟨Int.mul_nonneg h1.2.2.1 h2.1, Int.le_trans (Int.mul_le_mul h1.2.2.2 h2.2.1 h2.1 (by omega)) (by omega)⟩⟩
theorem arV_bd {S : List (Int × Int × Int × Int)} (h : ∀ x ∈ S, sOk x = true) : -(40000 * (S.length : Int)) ≤ arV S ∧ arV S ≤ 40000 * (S.length : Int) := by
  induction S with
  | nil => simp [arV]
  | cons x t ih =>
    have h1 := ih fun y hy => h y (List.mem_cons_of_mem _ hy)
    have h2 := arS_bd (h x List.mem_cons_self)
    have h3 : arV (x :: t) = arS x + arV t := by simp [arV]
    have h4 : arS x = x.1 * x.2.2.2 - x.2.1 * x.2.2.1 := rfl
    rw [List.length_cons, h3, h4]
    omega
theorem arV_bd_take {S : List (Int × Int × Int × Int)} (h : ∀ x ∈ S, sOk x = true) (hn : S.length ≤ 10) (j : Nat) : -400000 ≤ arV (S.take j) ∧ arV (S.take j) ≤ 400000 := by
  have := arV_bd (S := S.take j) (fun x hx => h x (List.mem_of_mem_take hx))
  have hl : (S.take j).length ≤ 10 := by rw [List.length_take]; omega
  omega
theorem twA_yes {l : List (Int × Int)} (h : isRg l = true) : twA l = arV (rgS l) := by unfold twA; rw [if_pos h]; rfl
theorem twA_no {l : List (Int × Int)} (h : isRg l = false) : twA l = 0 := by unfold twA; rw [h]; rfl
set_option maxRecDepth 100000 in
set_option maxHeartbeats 1000000 in
theorem twiceArea_is (a0 : Addr) (A : Option Addr) (c : Nat) (l : List (Int × Int)) (w : World) (hE : ErrAt a0 w) (hs : SeesE 2 encPoint w w.heap.size A l) (hl : l.length ≤ 274877906944) (hlc : l.length ≤ c) (hc : (c : Int) ≤ 9223372036854775807) (z : Int) (hz : twA l = z) :
    Calls Tryd.prog 14 #[.slice A l.length c] w fun e w' => e = .returned (.int .i64 z) ∧ Below w.heap.size w w' := by
  have HE := Lib.hid hE
  have HS := Lib.hid hs
  have HV := Lib.hid hz
  clear hE hs hz
  cases hz : isRg l
  · obtain rfl : z = 0 := by rw [← HV.out, twA_no hz]
    go_enter Tryd.func14, Tryd.ntmps14
    go_wp2_with fail
    refine (joinRing_no a0 A c l _ HE.out HS.out hl hlc hc hz).mono ?_
    rintro e w1 ⟨rfl, hb1⟩
    have hE1 : ErrAt a0 w1 := HE.out.all hb1
    unfold ErrAt at hE1
    have HB1 := Lib.hid hb1
    clear hb1
    go_wp2_with (go_at_call 34; refine (is_same a0 _).mono ?_; rintro e w2 ⟨rfl, rfl⟩)
    go_ret
    exact ⟨rfl, HB1.out⟩
  · have HOK : Hid ((∀ x ∈ rgS l, sOk x = true) ∧ (rgS l).length ≤ 10) := Lib.hid ⟨((isRg_iff l).1 hz).2.1, by rw [rgS_len]; exact ((isRg_iff l).1 hz).1.2⟩
    have HW : Hid (arV (rgS l) = z) := Lib.hid (by rw [← twA_yes hz]; exact HV.out)
    go_enter Tryd.func14, Tryd.ntmps14
    go_wp2_with fail
    refine (joinRing_yes a0 A c l _ HE.out HS.out hl hlc hc hz).mono ?_
    rintro e w1 ⟨A1, c1, L, hL, rfl, ho1, hb1⟩
    have hE1 : ErrAt a0 w1 := HE.out.all hb1
    unfold ErrAt at hE1
    have HB1 := Lib.hid hb1; have HO1 := Lib.hid ho1; have HL := hL
    clear hb1 ho1 hL
    go_wp2_with (go_at_call 34; refine (is_nil a0 _).mono ?_; rintro e w2 ⟨rfl, rfl⟩)
    have h10 : L.length ≤ 10 := by rw [HL.out]; exact HOK.out.2
    go_loopw [5, 18] (fun n i wr => ∃ j : Nat, j ≤ L.length ∧ n = .int .i64 (arV (L.take j)) ∧ i = .int .i64 j ∧ Hid (OwnE 4 encSegment wr w.heap.size 53 (.slice A1 L.length c1) L) ∧ Hid (Below w.heap.size w wr)) (fun _ i _ => L.length - (intOf i).toNat)
    case atStart => exact ⟨0, Nat.zero_le _, rfl, rfl, HO1, HB1⟩
    case round =>
      obtain ⟨j, hj, rfl, rfl, HO, HB⟩ := hrel
      clear HO1 HB1
      by_cases hlt : j < L.length
      · have hlt' : (j : Int) < (L.length : Int) := by omega
        obtain ⟨b, off, x, rfl, hbl, hx, -⟩ := (HO.out.sees elSegment).lt hlt
        obtain ⟨k0, k1, k2, k3⟩ := cells4 (HO.out.sees elSegment) hx
        have hx' : sOk x = true := HOK.out.1 x (by rw [← HL.out]; exact List.mem_of_getElem? hx)
        obtain ⟨⟨p0, p1⟩, q0, q1⟩ := arS_bd hx'
        obtain ⟨N, hN⟩ : ∃ N, arV (L.take j) = N := ⟨_, rfl⟩
        have hNb : -400000 ≤ N ∧ N ≤ 400000 := by rw [← hN]; exact arV_bd_take (by rw [HL.out]; exact HOK.out.1) h10 j
        have HT : Hid (N + (x.1 * x.2.2.2 - x.2.1 * x.2.2.1) = arV (L.take (j + 1))) := Lib.hid (by rw [← hN]; exact arV_take hx)
        rw [hN]
        clear hN hx hx'
        go_wp2
        go_roundw
        case rel => exact ⟨j + 1, by omega, by rw [← HT.out], by go_num, Lib.hid (HO.out.alloc _), Lib.hid (HB.out.alloc HB.out.size _)⟩
        case measure => simp [intOf]; omega
      · obtain rfl : j = L.length := by omega
        rw [List.take_length]
        go_wp2
        go_ret
        exact ⟨by rw [← HW.out, HL.out]; rfl, HB.out⟩
end Go.Proofs.YtbnjaaegbmhopaaDoor
end
section
/- The parts of a feature, and how two features meet: values. -/
namespace Go.Proofs.YtbnjaaegbmhopaaDoor
open Go.ChangeShapes Go.WideShapes Go.ChangeAt Go.RowKit
set_option linter.unusedVariables false

abbrev Sg := Int × Int × Int × Int
/-- The segments of a feature. -/
def partsV (f : Feat) : List Sg := if featV f = true then (if f.2.1 = 2 then sgV f.2.2.2.2 else if f.2.1 = 3 then rsV f.2.2.2.2 else []) else []
theorem parts_no {f : Feat} (h : featV f = false) : partsV f = [] := by unfold partsV; rw [h]; rfl
theorem parts_2 {a r : Int} {s : ByteArray} {ps : List (Int × Int)} (h : featV (a, 2, r, s, ps) = true) : partsV (a, 2, r, s, ps) = sgV ps := by unfold partsV; rw [if_pos h]; rfl
theorem parts_3 {a r : Int} {s : ByteArray} {ps : List (Int × Int)} (h : featV (a, 3, r, s, ps) = true) : partsV (a, 3, r, s, ps) = rsV ps := by unfold partsV; rw [if_pos h]; rfl
theorem parts_0 {a k r : Int} {s : ByteArray} {ps : List (Int × Int)} (h2 : ¬ k = 2) (h3 : ¬ k = 3) : partsV (a, k, r, s, ps) = [] := by
  unfold partsV; simp [h2, h3]
theorem parts_len (f : Feat) : (partsV f).length ≤ 10 := by
  unfold partsV
  split
  · split
    · have := sgV_len f.2.2.2.2; omega
    · split
      · unfold rsV
        split
        · next h => rw [rgS_len]; exact ((isRg_iff _).1 h).1.2
        · simp
      · simp
  · simp
/-- How two features meet. -/
def meetF (f g : Feat) : Int := mtV (partsV f) (partsV g)
theorem meetF_comm (f g : Feat) : meetF g f = meetF f g := mtV_comm _ _
theorem meetF_bd (f g : Feat) : meetF f g ≤ 3 := mtV_bd _ _
end Go.Proofs.YtbnjaaegbmhopaaDoor
end
section
/- Lines: IsLine of the model. -/
namespace Go.Proofs.YtbnjaaegbmhopaaDoor
open Go.ChangeShapes Go.WideShapes Go.ChangeAt Go.RowKit
set_option linter.unusedVariables false

theorem cellsPoint0 {w : World} {B : Nat} {b off : Nat} {l : List (Int × Int)} {t0 t1 : Int} (h : SeesE 2 encPoint w B (some ⟨b, off, none⟩) l) (hj : l[0]? = some (t0, t1)) : w.cell? ⟨b, off, none⟩ = some (.int .i64 t0) ∧ w.cell? ⟨b, off + 1, none⟩ = some (.int .i64 t1) := by
  have := cellsPoint h hj
  rwa [Nat.zero_mul, Nat.add_zero] at this
theorem upTo_step {p : Nat → Prop} {j : Nat} (h : ∀ i, i < j → p i) (hj : p j) : ∀ i, i < j + 1 → p i := fun i hi => by
  by_cases e : i = j
  · rw [e]; exact hj
  · exact h i (by omega)
theorem isLn_bad {l : List (Int × Int)} {j : Nat} (hj : j < l.length) (h : ptOk l j = false) : isLn l = false := by
  rw [isLn_pts]
  have : decide (∀ i, i < l.length → ptOk l i = true) = false := decide_eq_false fun g => by rw [g j hj] at h; cases h
  rw [this]; rfl
theorem isLn_good {l : List (Int × Int)} (h : ∀ i, i < l.length → ptOk l i = true) : inB l.length 2 10 = isLn l := by
  rw [isLn_pts, decide_eq_true h, Bool.true_and]
section
variable {l : List (Int × Int)} {j k : Nat} {x y x' y' : Int}
theorem ptOk_p (hx : l[j]? = some (x, y)) (hq : isP x y = false) : ptOk l j = false := by simp only [ptOk, hx, hq, Bool.false_and]
theorem ptOk_0 (hx : l[0]? = some (x, y)) (hq : isP x y = true) : ptOk l 0 = true := by simp only [ptOk, hx, hq]; rfl
theorem ptOk_s (hx : l[k + 1]? = some (x, y)) (hx' : l[k]? = some (x', y')) (hq : isP x y = true) : ptOk l (k + 1) = !decide (x' = x ∧ y' = y) := by
  simp only [ptOk, hx, hq, Nat.add_sub_cancel, hx', Bool.true_and]
  have : (k + 1 == 0) = false := rfl
  rw [this, Bool.false_or]
  congr 1
  rw [Bool.eq_iff_iff, beq_iff_eq, decide_eq_true_eq, Option.some.injEq, Prod.mk.injEq]
end
def isLnT : List (Nat × Nat × Nat) := [(0, 11, 1), (0, 12, 8), (3, 13, 3072), (4, 14, 4096), (8, 15, 8192), (16, 16, 16384), (48, 17, 32768), (64, 18, 65544), (192, 19, 196608), (320, 20, 327680), (512, 21, 524289), (512, 22, 524296), (2560, 23, 2621440), (5632, 24, 5767168), (8704, 25, 8912896), (512, 26, 524289), (512, 27, 524296), (98816, 28, 101187584), (131584, 29, 134742016), (279040, 30, 285736960), (524864, 31, 537460736), (1048640, 32, 1073807360)]
def isLnS : List (Nat × Bool) := [(0, true), (1, true), (2, true), (3, true), (4, false), (5, true), (6, true), (7, true), (8, true), (9, true), (10, true), (11, true), (12, true), (13, true), (14, true), (15, true), (16, true), (17, true), (18, true), (19, true), (20, true), (21, true)]
set_option maxRecDepth 100000 in
set_option maxHeartbeats 40000000 in
theorem sIsLine_is (A : Option Addr) (c : Nat) (l : List (Int × Int)) (w : World) (hs : SeesE 2 encPoint w w.heap.size A l) (hl : l.length ≤ 1099511627776) (z : Bool) (hz : isLn l = z) :
    Calls Tryd.prog 85 #[.slice A l.length c] w fun e w' => e = .returned (.bool z) ∧ Below w.heap.size w w' := by
  have HS := Lib.hid hs; clear hs
  have HZ := Lib.hid hz; clear hz
  go_enter Tryd.func85, Tryd.ntmps85
  go_wp2
  go_loopw [3] (fun i wr => ∃ j : Nat, j ≤ l.length ∧ i = .int .i64 j ∧ Hid (∀ i, i < j → ptOk l i = true) ∧ Hid (Below w.heap.size w wr)) (fun i _ => l.length - (intOf i).toNat)
  case atStart => exact ⟨0, Nat.zero_le _, rfl, Lib.hid (fun i h => by omega), Lib.hid (Below.refl _ _)⟩
  case round =>
    obtain ⟨j, hj, rfl, hp, hb⟩ := hrel
    by_cases hlt : j < l.length
    · obtain ⟨b, off, ⟨x, y⟩, rfl, hbl, hx, -⟩ := (HS.out.below hb.out).lt hlt
      have hji : (j : Int) < (l.length : Int) := by omega
      have HB := Lib.hid hb.out.drew
      cases hq : isP x y
      · obtain rfl : z = false := HZ.out.symm.trans (isLn_bad hlt (ptOk_p hx hq))
        have HX := Lib.hid hx; clear hx
        go_upto_region 4 with fail
        refine wp_region_held_drew (S := (fun w' => w'.cell? ⟨b, off + j * 2, none⟩ = some (.int .i64 x) ∧ w'.cell? ⟨b, off + j * 2 + 1, none⟩ = some (.int .i64 y))) (by kernel_rfl) ⟨(cellsPoint (HS.out.below HB.out) HX.out).1, (cellsPoint (HS.out.below HB.out) HX.out).2⟩ (fun hHeld => ?_)
        refine to_lin (T := isLnT) (n := 22) isLnS ⟨by kernel_rfl, by kernel_rfl, by kernel_rfl⟩ (by kernel_rfl) (fun hTag => ?_)
        iterate 4 (refine lin_on (v := ?_) rfl (fun _ _ _ h => h) (by rfl) ?_ (by assumption) ?_; rotate_left; (· (intro wq hSw; go_simp; try with_reducible rfl)); try simp only [Act.put, List.setIfInBounds_toArray, List.set_cons_zero, List.set_cons_succ])
        refine lin_call rfl (by rfl) (fun K hK => ?_)
        go_simp
        go_at_call 36
        refine (sIsPoint_is _ _ _ _ hq).mono ?_
        rintro e w9 ⟨rfl, hb9⟩
        have HB := Lib.hid (HB.out.trans (hb9.mono HB.out.size))
        clear hb9
        go_wp2_with fail
        refine hK.out _ _ ?_ (fun hHeld => ?_)
        · exact ⟨(cellsPoint (HS.out.below HB.out) HX.out).1, (cellsPoint (HS.out.below HB.out) HX.out).2⟩
        clear hK K
        try simp only [Act.put, List.setIfInBounds_toArray, List.set_cons_zero, List.set_cons_succ]
        iterate 2 (refine lin_on (v := ?_) rfl (fun _ _ _ h => h) (by rfl) ?_ (by assumption) ?_; rotate_left; (· (intro wq hSw; go_simp; try with_reducible rfl)); try simp only [Act.put, List.setIfInBounds_toArray, List.set_cons_zero, List.set_cons_succ])
        iterate 14 (refine lin_off rfl (fun _ _ _ h => h) (by rfl) (by assumption) ?_; try simp only [Act.put, List.setIfInBounds_toArray, List.set_cons_zero, List.set_cons_succ])
        (refine lin_on (v := ?_) rfl (fun _ _ _ h => h) (by rfl) ?_ (by assumption) ?_; rotate_left; (· (intro wq hSw; go_simp; try with_reducible rfl)); try simp only [Act.put, List.setIfInBounds_toArray, List.set_cons_zero, List.set_cons_succ])
        refine lin_done ?_
        go_wp2
        go_ret
        exact ⟨rfl, HB.out⟩
      · cases j with
        | zero =>
          have HX := Lib.hid hx; clear hx
          go_upto_region 4 with fail
          refine wp_region_held_drew (S := (fun w' => w'.cell? ⟨b, off, none⟩ = some (.int .i64 x) ∧ w'.cell? ⟨b, off + 1, none⟩ = some (.int .i64 y))) (by kernel_rfl) (cellsPoint0 (HS.out.below HB.out) HX.out) (fun hHeld => ?_)
          refine to_lin (T := isLnT) (n := 22) isLnS ⟨by kernel_rfl, by kernel_rfl, by kernel_rfl⟩ (by kernel_rfl) (fun hTag => ?_)
          iterate 4 (refine lin_on (v := ?_) rfl (fun _ _ _ h => h) (by rfl) ?_ (by assumption) ?_; rotate_left; (· (intro wq hSw; go_simp; try with_reducible rfl)); try simp only [Act.put, List.setIfInBounds_toArray, List.set_cons_zero, List.set_cons_succ])
          refine lin_call rfl (by rfl) (fun K hK => ?_)
          go_simp
          go_at_call 36
          refine (sIsPoint_is _ _ _ _ hq).mono ?_
          rintro e w9 ⟨rfl, hb9⟩
          have HB := Lib.hid (HB.out.trans (hb9.mono HB.out.size))
          clear hb9
          go_wp2_with fail
          refine hK.out _ _ ?_ (fun hHeld => ?_)
          · exact (cellsPoint0 (HS.out.below HB.out) HX.out)
          clear hK K
          try simp only [Act.put, List.setIfInBounds_toArray, List.set_cons_zero, List.set_cons_succ]
          iterate 5 (refine lin_on (v := ?_) rfl (fun _ _ _ h => h) (by rfl) ?_ (by assumption) ?_; rotate_left; (· (intro wq hSw; go_simp; try with_reducible rfl)); try simp only [Act.put, List.setIfInBounds_toArray, List.set_cons_zero, List.set_cons_succ])
          iterate 10 (refine lin_off rfl (fun _ _ _ h => h) (by rfl) (by assumption) ?_; try simp only [Act.put, List.setIfInBounds_toArray, List.set_cons_zero, List.set_cons_succ])
          iterate 2 (refine lin_on (v := ?_) rfl (fun _ _ _ h => h) (by rfl) ?_ (by assumption) ?_; rotate_left; (· (intro wq hSw; go_simp; try with_reducible rfl)); try simp only [Act.put, List.setIfInBounds_toArray, List.set_cons_zero, List.set_cons_succ])
          refine lin_done ?_
          go_wp2
          go_roundw
          case rel => exact ⟨0 + 1, by omega, by go_num, Lib.hid (upTo_step hp.out (ptOk_0 HX.out hq)), HB⟩
          case measure => simp [intOf]; omega
        | succ k =>
          obtain ⟨⟨x', y'⟩, hx'⟩ : ∃ p, l[k]? = some p := ⟨_, List.getElem?_eq_getElem (by omega)⟩
          have HK := Lib.hid (ptOk_s hx hx' hq)
          have HX := Lib.hid hx; clear hx
          have HX' := Lib.hid hx'; clear hx'
          have e1 : ((k + 1 : Nat) : Int) = (k : Int) + 1 := by omega
          rw [e1] at hji ⊢
          have hw : IntKind.i64.wrap (k : Int) = k := IntWalk.i64_in _ (by omega)
          have hpos : (0 : Int) < (k : Int) + 1 := by omega
          have hnn : (0 : Int) ≤ (k : Int) + 1 := by omega
          have hkl : (k : Int) < (l.length : Int) := by omega
          by_cases h0 : x' = x
          · by_cases h1 : y' = y
            · obtain rfl : z = false := HZ.out.symm.trans (isLn_bad hlt (by rw [HK.out, decide_eq_true ⟨h0, h1⟩]; rfl))
              subst h0 h1
              go_upto_region 4 with fail
              refine wp_region_held_drew (S := (fun w' => w'.cell? ⟨b, off + (k + 1) * 2, none⟩ = some (.int .i64 x') ∧ w'.cell? ⟨b, off + (k + 1) * 2 + 1, none⟩ = some (.int .i64 y') ∧ w'.cell? ⟨b, off + k * 2, none⟩ = some (.int .i64 x') ∧ w'.cell? ⟨b, off + k * 2 + 1, none⟩ = some (.int .i64 y'))) (by kernel_rfl) ⟨(cellsPoint (HS.out.below HB.out) HX.out).1, (cellsPoint (HS.out.below HB.out) HX.out).2, (cellsPoint (HS.out.below HB.out) HX'.out).1, (cellsPoint (HS.out.below HB.out) HX'.out).2⟩ (fun hHeld => ?_)
              refine to_lin (T := isLnT) (n := 22) isLnS ⟨by kernel_rfl, by kernel_rfl, by kernel_rfl⟩ (by kernel_rfl) (fun hTag => ?_)
              iterate 4 (refine lin_on (v := ?_) rfl (fun _ _ _ h => h) (by rfl) ?_ (by assumption) ?_; rotate_left; (· (intro wq hSw; go_simp; try with_reducible rfl)); try simp only [Act.put, List.setIfInBounds_toArray, List.set_cons_zero, List.set_cons_succ])
              refine lin_call rfl (by rfl) (fun K hK => ?_)
              go_simp
              go_at_call 36
              refine (sIsPoint_is _ _ _ _ hq).mono ?_
              rintro e w9 ⟨rfl, hb9⟩
              have HB := Lib.hid (HB.out.trans (hb9.mono HB.out.size))
              clear hb9
              go_wp2_with fail
              refine hK.out _ _ ?_ (fun hHeld => ?_)
              · exact ⟨(cellsPoint (HS.out.below HB.out) HX.out).1, (cellsPoint (HS.out.below HB.out) HX.out).2, (cellsPoint (HS.out.below HB.out) HX'.out).1, (cellsPoint (HS.out.below HB.out) HX'.out).2⟩
              clear hK K
              try simp only [Act.put, List.setIfInBounds_toArray, List.set_cons_zero, List.set_cons_succ]
              iterate 17 (refine lin_on (v := ?_) rfl (fun _ _ _ h => h) (by rfl) ?_ (by assumption) ?_; rotate_left; (· (intro wq hSw; go_simp; try with_reducible rfl)); try simp only [Act.put, List.setIfInBounds_toArray, List.set_cons_zero, List.set_cons_succ])
              refine lin_done ?_
              go_wp2
              go_ret
              exact ⟨rfl, HB.out⟩
            · subst h0
              go_upto_region 4 with fail
              refine wp_region_held_drew (S := (fun w' => w'.cell? ⟨b, off + (k + 1) * 2, none⟩ = some (.int .i64 x') ∧ w'.cell? ⟨b, off + (k + 1) * 2 + 1, none⟩ = some (.int .i64 y) ∧ w'.cell? ⟨b, off + k * 2, none⟩ = some (.int .i64 x') ∧ w'.cell? ⟨b, off + k * 2 + 1, none⟩ = some (.int .i64 y'))) (by kernel_rfl) ⟨(cellsPoint (HS.out.below HB.out) HX.out).1, (cellsPoint (HS.out.below HB.out) HX.out).2, (cellsPoint (HS.out.below HB.out) HX'.out).1, (cellsPoint (HS.out.below HB.out) HX'.out).2⟩ (fun hHeld => ?_)
              refine to_lin (T := isLnT) (n := 22) isLnS ⟨by kernel_rfl, by kernel_rfl, by kernel_rfl⟩ (by kernel_rfl) (fun hTag => ?_)
              iterate 4 (refine lin_on (v := ?_) rfl (fun _ _ _ h => h) (by rfl) ?_ (by assumption) ?_; rotate_left; (· (intro wq hSw; go_simp; try with_reducible rfl)); try simp only [Act.put, List.setIfInBounds_toArray, List.set_cons_zero, List.set_cons_succ])
              refine lin_call rfl (by rfl) (fun K hK => ?_)
              go_simp
              go_at_call 36
              refine (sIsPoint_is _ _ _ _ hq).mono ?_
              rintro e w9 ⟨rfl, hb9⟩
              have HB := Lib.hid (HB.out.trans (hb9.mono HB.out.size))
              clear hb9
              go_wp2_with fail
              refine hK.out _ _ ?_ (fun hHeld => ?_)
              · exact ⟨(cellsPoint (HS.out.below HB.out) HX.out).1, (cellsPoint (HS.out.below HB.out) HX.out).2, (cellsPoint (HS.out.below HB.out) HX'.out).1, (cellsPoint (HS.out.below HB.out) HX'.out).2⟩
              clear hK K
              try simp only [Act.put, List.setIfInBounds_toArray, List.set_cons_zero, List.set_cons_succ]
              iterate 17 (refine lin_on (v := ?_) rfl (fun _ _ _ h => h) (by rfl) ?_ (by assumption) ?_; rotate_left; (· (intro wq hSw; go_simp; try with_reducible rfl)); try simp only [Act.put, List.setIfInBounds_toArray, List.set_cons_zero, List.set_cons_succ])
              refine lin_done ?_
              go_wp2
              go_roundw
              case rel => exact ⟨(k + 1) + 1, by omega, by go_num, Lib.hid (upTo_step hp.out (by rw [HK.out, decide_eq_false (fun g => h1 g.2)]; rfl)), HB⟩
              case measure => simp [intOf]; omega
          · go_upto_region 4 with fail
            refine wp_region_held_drew (S := (fun w' => w'.cell? ⟨b, off + (k + 1) * 2, none⟩ = some (.int .i64 x) ∧ w'.cell? ⟨b, off + (k + 1) * 2 + 1, none⟩ = some (.int .i64 y) ∧ w'.cell? ⟨b, off + k * 2, none⟩ = some (.int .i64 x') ∧ w'.cell? ⟨b, off + k * 2 + 1, none⟩ = some (.int .i64 y'))) (by kernel_rfl) ⟨(cellsPoint (HS.out.below HB.out) HX.out).1, (cellsPoint (HS.out.below HB.out) HX.out).2, (cellsPoint (HS.out.below HB.out) HX'.out).1, (cellsPoint (HS.out.below HB.out) HX'.out).2⟩ (fun hHeld => ?_)
            refine to_lin (T := isLnT) (n := 22) isLnS ⟨by kernel_rfl, by kernel_rfl, by kernel_rfl⟩ (by kernel_rfl) (fun hTag => ?_)
            iterate 4 (refine lin_on (v := ?_) rfl (fun _ _ _ h => h) (by rfl) ?_ (by assumption) ?_; rotate_left; (· (intro wq hSw; go_simp; try with_reducible rfl)); try simp only [Act.put, List.setIfInBounds_toArray, List.set_cons_zero, List.set_cons_succ])
            refine lin_call rfl (by rfl) (fun K hK => ?_)
            go_simp
            go_at_call 36
            refine (sIsPoint_is _ _ _ _ hq).mono ?_
            rintro e w9 ⟨rfl, hb9⟩
            have HB := Lib.hid (HB.out.trans (hb9.mono HB.out.size))
            clear hb9
            go_wp2_with fail
            refine hK.out _ _ ?_ (fun hHeld => ?_)
            · exact ⟨(cellsPoint (HS.out.below HB.out) HX.out).1, (cellsPoint (HS.out.below HB.out) HX.out).2, (cellsPoint (HS.out.below HB.out) HX'.out).1, (cellsPoint (HS.out.below HB.out) HX'.out).2⟩
            clear hK K
            try simp only [Act.put, List.setIfInBounds_toArray, List.set_cons_zero, List.set_cons_succ]
            iterate 17 (refine lin_on (v := ?_) rfl (fun _ _ _ h => h) (by rfl) ?_ (by assumption) ?_; rotate_left; (· (intro wq hSw; go_simp; try with_reducible rfl)); try simp only [Act.put, List.setIfInBounds_toArray, List.set_cons_zero, List.set_cons_succ])
            refine lin_done ?_
            go_wp2
            go_roundw
            case rel => exact ⟨(k + 1) + 1, by omega, by go_num, Lib.hid (upTo_step hp.out (by rw [HK.out, decide_eq_false (fun g => h0 g.1)]; rfl)), HB⟩
            case measure => simp [intOf]; omega
    · obtain rfl : j = l.length := by omega
      go_wp2_with fail
      refine (l1in_is _ _ _ _ _ ((isLn_good hp.out).trans HZ.out)).mono ?_
      rintro e w9 ⟨rfl, rfl⟩
      go_wp2
      go_ret
      exact ⟨rfl, hb.out⟩
end Go.Proofs.YtbnjaaegbmhopaaDoor
end
section
/- Lines: SegmentsOf and LineSteps of the model. -/
namespace Go.Proofs.YtbnjaaegbmhopaaDoor
open Go.ChangeShapes Go.WideShapes Go.ChangeAt Go.RowKit
set_option linter.unusedVariables false

theorem keepA {w : World} {p : Addr} {v : Value} (h : w.cell? p = some v) (o : Obj) : (w.alloc o).cell? p = some v :=
  (World.cell?_of_block (Below.heap_alloc _ _ _ (World.block_lt_of_cell? w p h))).trans h
theorem sizeA (w : World) (o : Obj) : w.heap.size ≤ (w.alloc o).heap.size := by simp
/-- append of one segment, as one step of a region that draws its order. -/
theorem stepSegment (w : World) {ops : Array Oper} {o : Oper} {a : Act} {K : Act → World → Prop} {Q : Exit → Act → World → Prop} {E : Prop} (hgd : o.guard = none) (s x : Operand)
    (ho : o.op = .call { callee := .builtin .append, args := #[s, x], argTypes := #[36, 36] })
    (base : Nat) (v : Value) (l : List (Int × Int × Int × Int)) (hv : a.eval s = v) (hown : OwnE 4 encSegment w base 53 v l)
    (B : Nat) (A : Option Addr) (m c : Nat) (l2 : List (Int × Int × Int × Int)) (hx : a.eval x = .slice A m c) (hm : m = l2.length) (hs : SeesE 4 encSegment w B A l2) (h63 : l.length + l2.length ≤ 1099511627776) (hbase : base ≤ w.heap.size)
    (h : ∀ A' c' L w', Hid (L = l ++ l2) → L.length ≤ l.length + l2.length → l.length + l2.length ≤ L.length → OwnE 4 encSegment w' base 53 (.slice A' L.length c') L → Below base w w' → K (a.put o.dst (.slice A' L.length c')) w') :
    if Region.wanted o (yielded ops a.tmps) = true then Oper.wp Tryd.prog o a w K Q else E := by
  have hw : Region.wanted o (yielded ops a.tmps) = true := by simp [Region.wanted, hgd]
  rw [if_pos hw]
  obtain ⟨i, hi, hz, h1, h2⟩ := info_parts infoSegment
  exact wp_appE w elSegment s x _ ho _ i _ 32 Tryd.underlying36 hi hz h1 h2 rfl base v l hv hown B A m c l2 hx hm hs h63 (by decide) hbase h
def SoRel (l : List (Int × Int)) (w : World) (v i : Value) (wr : World) : Prop :=
  ∃ (A : Option Addr) (c : Nat) (L : List (Int × Int × Int × Int)) (j : Nat), v = .slice A L.length c ∧ i = .int .i64 ((j : Int) + 1) ∧ (isLn l = false → j = 0) ∧ (j = 0 ∨ j ≤ (jts l).length) ∧ Hid (L = (sgV l).take j) ∧ L.length = j ∧ OwnE 4 encSegment wr w.heap.size 53 (.slice A L.length c) L ∧ Below w.heap.size w wr
theorem so_step {S L L2 : List (Int × Int × Int × Int)} {j : Nat} {x : Int × Int × Int × Int} (hL : L = S.take j) (h : L2 = L ++ [x]) (hx : S[j]? = some x) : L2 = S.take (j + 1) := by
  rw [h, hL, List.take_add_one, hx]; rfl
set_option maxRecDepth 100000 in
set_option maxHeartbeats 4000000 in
theorem sSegmentsOf_any (A : Option Addr) (c : Nat) (l : List (Int × Int)) (w : World) (hs : SeesE 2 encPoint w w.heap.size A l) (hl : l.length ≤ 1099511627776) :
    Calls Tryd.prog 66 #[.slice A l.length c] w (GivesE 4 encSegment 53 (sgV l) w) := by
  have HS := Lib.hid hs; clear hs
  go_enter Tryd.func66, Tryd.ntmps66
  go_wp2
  go_loopw [3, 4] (fun v i wr => SoRel l w v i wr) (fun _ i _ => l.length - (intOf i).toNat)
  case atStart => exact ⟨_, _, [], 0, rfl, by go_num, fun _ => rfl, .inl rfl, Lib.hid (by simp), rfl, OwnE.lit w _ _ (Nat.le_refl _), (Below.refl _ _).alloc (Nat.le_refl _) _⟩
  case round =>
    obtain ⟨A1, c1, L, j, rfl, rfl, hi0, hj, hL, hn, ho, hb⟩ := hrel
    have HB := Lib.hid hb; clear hb
    have HO := Lib.hid ho; clear ho
    have hsz := HB.out.size
    have hjl := jts_len l
    have HN := Lib.hid hn; clear hn
    by_cases hlt : j + 1 < l.length
    · have hji : (j : Int) + 1 < (l.length : Int) := by omega
      cases hi : isLn l
      · obtain rfl := hi0 hi
        go_wp2_with (go_at_call 85; refine (sIsLine_is A c l _ ((HS.out.below HB.out).mono HB.out.size) hl _ hi).mono ?_; rintro e w9 ⟨rfl, hb9⟩)
        go_ret
        refine ⟨A1, c1, L, Lib.hid ?_, rfl, HO.out.belowAll hb9, HB.out.trans (hb9.mono HB.out.size)⟩
        rw [hL.out, sgV_no hi]; rfl
      · obtain ⟨x0, x1, y0, y1, hx, hy, hjx⟩ := jts_at hlt
        have hxl : (jts l)[j]? = (sgV l)[j]? := by rw [sgV_yes hi]
        rw [hxl] at hjx
        have HX := Lib.hid hx; have HY := Lib.hid hy; have HJ := Lib.hid hjx
        obtain ⟨b, off, rfl, hbl, -⟩ := HS.out j _ hx
        clear hx hy hjx hxl
        have hw : IntKind.i64.wrap (j : Int) = j := IntWalk.i64_in _ (by omega)
        have hnn : (0 : Int) ≤ (j : Int) + 1 := by omega
        have hkl : (j : Int) < (l.length : Int) := by omega
        have hone : L.length + [(x0, x1, y0, y1)].length ≤ 1099511627776 := by have := HN.out; simp; omega
        go_wp2_with (go_at_call 85; refine (sIsLine_is _ c l _ ((HS.out.below HB.out).mono HB.out.size) hl _ hi).mono ?_; rintro e w9 ⟨rfl, hb9⟩; have HB9 := Lib.hid (HB.out.trans (hb9.mono HB.out.size)); have HO9 := Lib.hid (HO.out.belowAll hb9).drew; obtain ⟨k0, k1⟩ := cellsPoint (HS.out.below HB9.out) HX.out; obtain ⟨k2, k3⟩ := cellsPoint (HS.out.below HB9.out) HY.out)
        have hz9 : w.heap.size ≤ w9.drew.heap.size := HB9.out.size
        go_region_held3 (fun w' => w'.cell? ⟨b, off + j * 2, none⟩ = some (.int .i64 x0) ∧ w'.cell? ⟨b, off + j * 2 + 1, none⟩ = some (.int .i64 x1) ∧ w'.cell? ⟨b, off + (j + 1) * 2, none⟩ = some (.int .i64 y0) ∧ w'.cell? ⟨b, off + (j + 1) * 2 + 1, none⟩ = some (.int .i64 y1)) (first | exact ⟨k0, k1, k2, k3⟩ | exact ⟨keepA k0 _, keepA k1 _, keepA k2 _, keepA k3 _⟩ | exact hc4) (first
          | (refine stepSegment _ rfl _ _ rfl w.heap.size _ L rfl (HO9.out.alloc _) (w9.drew.heap.size + 1) _ 1 _ [(x0, x1, y0, y1)] rfl rfl (seesE_new elSegment w9.drew (x0, x1, y0, y1) _ _ _ (Nat.lt_succ_self _) rfl) hone (Nat.le_trans hz9 (sizeA _ _)) ?_; intro A4 c4 L4 w4 hL4 h1 h2 ho4 hb4; have hc4 := And.intro ((hb4.cell (p := ⟨b, off + j * 2, none⟩) hbl).trans (keepA k0 _)) (And.intro ((hb4.cell (p := ⟨b, off + j * 2 + 1, none⟩) hbl).trans (keepA k1 _)) (And.intro ((hb4.cell (p := ⟨b, off + (j + 1) * 2, none⟩) hbl).trans (keepA k2 _)) ((hb4.cell (p := ⟨b, off + (j + 1) * 2 + 1, none⟩) hbl).trans (keepA k3 _))))) | fail)
        go_wp2
        go_roundw
        case rel => exact ⟨A4, c4, L4, j + 1, rfl, by go_num, fun h => (by rw [hi] at h; cases h), .inr (by omega), Lib.hid (so_step hL.out hL4.out HJ.out), by have := HN.out; simp at h1 h2; omega, ho4, HB9.out.drew.trans (((Below.refl _ _).alloc hz9 _).trans hb4)⟩
        case measure => simp [intOf]; omega
    · have hji : ¬ ((j : Int) + 1 < (l.length : Int)) := by omega
      go_wp2
      go_ret
      refine ⟨A1, c1, L, Lib.hid ?_, rfl, HO.out, HB.out⟩
      rw [hL.out]
      cases hi : isLn l
      · rw [sgV_no hi, List.take_nil]
      · have := isLn_yes hi
        rw [sgV_yes hi]; exact List.take_of_length_le (by omega)
theorem stpV_step {L : List (Int × Int × Int × Int)} {j : Nat} {x : Int × Int × Int × Int} (hx : L[j]? = some x) : stpV (L.take j) + stS x = stpV (L.take (j + 1)) := by
  rw [List.take_add_one, hx]; exact (stpV_snoc _ _).symm
end Go.Proofs.YtbnjaaegbmhopaaDoor
end
section
/- Lines: IsSimple and LinesMeet of the model. -/
namespace Go.Proofs.YtbnjaaegbmhopaaDoor
open Go.ChangeShapes Go.WideShapes Go.ChangeAt Go.RowKit
set_option linter.unusedVariables false

set_option maxRecDepth 100000 in
set_option maxHeartbeats 8000000 in
theorem sIsSimple_is (A : Option Addr) (c : Nat) (l : List (Int × Int)) (w : World) (hs : SeesE 2 encPoint w w.heap.size A l) (hl : l.length ≤ 1099511627776) (z : Bool) (hz : smpV l = z) :
    Calls Tryd.prog 84 #[.slice A l.length c] w fun e w' => e = .returned (.bool z) ∧ Below w.heap.size w w' := by
  have HS := Lib.hid hs; clear hs
  go_enter Tryd.func84, Tryd.ntmps84
  go_wp2_with (go_at_call 66; refine (sSegmentsOf_any A c l _ HS.out hl).mono ?_; rintro e w1 ⟨A1, c1, L, hL, rfl, ho1, hb1⟩)
  have HO1 := Lib.hid ho1; have HB1 := Lib.hid hb1
  have h9 : L.length ≤ 9 := by rw [hL.out]; exact sgV_len l
  have HL := hL
  have HZ := Lib.hid hz
  clear ho1 hb1 hL hz
  go_loopw [4] (fun i wr => ∃ j : Nat, j ≤ L.length ∧ i = .int .i64 j ∧ Hid (∀ k, k < j → ∀ i, i < k → mtOk (sgV l) i k = true) ∧ Hid (OwnE 4 encSegment wr w.heap.size 53 (.slice A1 L.length c1) L) ∧ Hid (Below w.heap.size w wr)) (fun i _ => L.length - (intOf i).toNat)
  case atStart => exact ⟨0, Nat.zero_le _, rfl, Lib.hid (fun k hk => by omega), HO1, HB1⟩
  case round =>
    obtain ⟨i, hi, rfl, hp, HO, HB⟩ := hrel
    clear HO1 HB1
    by_cases hlt : i < L.length
    · have hli : (i : Int) < (L.length : Int) := by omega
      go_wp2
      go_loopw [5] (fun k wx => ∃ j : Nat, j ≤ i ∧ k = .int .i64 j ∧ Hid (∀ q, q < j → mtOk (sgV l) q i = true) ∧ Hid (OwnE 4 encSegment wx w.heap.size 53 (.slice A1 L.length c1) L) ∧ Hid (Below w.heap.size w wx)) (fun k _ => i - (intOf k).toNat)
      case atStart => exact ⟨0, Nat.zero_le _, rfl, Lib.hid (fun k hk => by omega), HO, HB⟩
      case round =>
        obtain ⟨j, hj, rfl, hq, HO, HB⟩ := hrel
        by_cases hlj : j < i
        · have hlj' : (j : Int) < (L.length : Int) := by omega
          obtain ⟨b, off, v, rfl, hbl, hv, -⟩ := (HO.out.sees elSegment).lt hlt
          obtain ⟨u, hu⟩ : ∃ u, L[j]? = some u := ⟨_, List.getElem?_eq_getElem (by omega)⟩
          obtain ⟨k0, k1, k2, k3⟩ := cells4 (HO.out.sees elSegment) hu
          obtain ⟨k4, k5, k6, k7⟩ := cells4 (HO.out.sees elSegment) hv
          have HU := Lib.hid hu; have HV := Lib.hid hv
          have HU' : Hid ((sgV l)[j]? = some u) := Lib.hid (by rw [← HL.out]; exact hu)
          have HV' : Hid ((sgV l)[i]? = some v) := Lib.hid (by rw [← HL.out]; exact hv)
          clear hu hv
          obtain ⟨m, hm⟩ : ∃ m, howS v u = m := ⟨_, rfl⟩
          have HM : Hid (howS u v = m) := Lib.hid (by rw [← hm]; exact howS_comm v u)
          by_cases he : j + 1 = i
          · have he' : (j : Int) + 1 = (i : Int) := by omega
            have HWn : Hid (wantS j i = 1) := Lib.hid (if_pos he)
            by_cases h1 : m = 1
            · subst h1
              go_wp2
              go_region_held3 (fun w' => (w'.cell? ⟨b, off + j * 4, none⟩ = some (.int .i64 u.1) ∧ w'.cell? ⟨b, off + j * 4 + 1, none⟩ = some (.int .i64 u.2.1) ∧ w'.cell? ⟨b, off + j * 4 + 2, none⟩ = some (.int .i64 u.2.2.1) ∧ w'.cell? ⟨b, off + j * 4 + 3, none⟩ = some (.int .i64 u.2.2.2)) ∧ (w'.cell? ⟨b, off + i * 4, none⟩ = some (.int .i64 v.1) ∧ w'.cell? ⟨b, off + i * 4 + 1, none⟩ = some (.int .i64 v.2.1) ∧ w'.cell? ⟨b, off + i * 4 + 2, none⟩ = some (.int .i64 v.2.2.1) ∧ w'.cell? ⟨b, off + i * 4 + 3, none⟩ = some (.int .i64 v.2.2.2))) (first | exact ⟨⟨k0, k1, k2, k3⟩, ⟨k4, k5, k6, k7⟩⟩ | exact hQ) (first
                | (go_at_call 32; refine (sHowS_is v u _ _ hm).mono ?_; rintro e w9 ⟨rfl, hb9⟩; have HB9 := Lib.hid (HB.out.drew.trans (hb9.mono HB.out.size)); have HO9 := Lib.hid ((HO.out.drew).belowAll hb9); have hQ := And.intro (cells4 (HO9.out.sees elSegment) HU.out) (cells4 (HO9.out.sees elSegment) HV.out)) | fail)
              all_goals
                go_wp2
                go_roundw
                case rel => exact ⟨j + 1, by omega, by go_num, Lib.hid (upto_step hq.out (smp_ok HU'.out HV'.out (HM.out.trans HWn.out.symm))), HO9, HB9⟩
                case measure => simp [intOf]; omega
            · obtain rfl : z = false := HZ.out.symm.trans (smp_no HU'.out HV'.out hlj (by rw [HM.out, HWn.out]; exact h1))
              go_wp2
              go_region_held3 (fun w' => (w'.cell? ⟨b, off + j * 4, none⟩ = some (.int .i64 u.1) ∧ w'.cell? ⟨b, off + j * 4 + 1, none⟩ = some (.int .i64 u.2.1) ∧ w'.cell? ⟨b, off + j * 4 + 2, none⟩ = some (.int .i64 u.2.2.1) ∧ w'.cell? ⟨b, off + j * 4 + 3, none⟩ = some (.int .i64 u.2.2.2)) ∧ (w'.cell? ⟨b, off + i * 4, none⟩ = some (.int .i64 v.1) ∧ w'.cell? ⟨b, off + i * 4 + 1, none⟩ = some (.int .i64 v.2.1) ∧ w'.cell? ⟨b, off + i * 4 + 2, none⟩ = some (.int .i64 v.2.2.1) ∧ w'.cell? ⟨b, off + i * 4 + 3, none⟩ = some (.int .i64 v.2.2.2))) (first | exact ⟨⟨k0, k1, k2, k3⟩, ⟨k4, k5, k6, k7⟩⟩ | exact hQ) (first
                | (go_at_call 32; refine (sHowS_is v u _ _ hm).mono ?_; rintro e w9 ⟨rfl, hb9⟩; have HB9 := Lib.hid (HB.out.drew.trans (hb9.mono HB.out.size)); have HO9 := Lib.hid ((HO.out.drew).belowAll hb9); have hQ := And.intro (cells4 (HO9.out.sees elSegment) HU.out) (cells4 (HO9.out.sees elSegment) HV.out)) | fail)
              all_goals
                go_wp2
                go_ret
                exact ⟨rfl, HB9.out⟩
          · have he' : ¬ ((j : Int) + 1 = (i : Int)) := by omega
            have HWn : Hid (wantS j i = 0) := Lib.hid (if_neg he)
            by_cases h1 : m = 0
            · subst h1
              go_wp2
              go_region_held3 (fun w' => (w'.cell? ⟨b, off + j * 4, none⟩ = some (.int .i64 u.1) ∧ w'.cell? ⟨b, off + j * 4 + 1, none⟩ = some (.int .i64 u.2.1) ∧ w'.cell? ⟨b, off + j * 4 + 2, none⟩ = some (.int .i64 u.2.2.1) ∧ w'.cell? ⟨b, off + j * 4 + 3, none⟩ = some (.int .i64 u.2.2.2)) ∧ (w'.cell? ⟨b, off + i * 4, none⟩ = some (.int .i64 v.1) ∧ w'.cell? ⟨b, off + i * 4 + 1, none⟩ = some (.int .i64 v.2.1) ∧ w'.cell? ⟨b, off + i * 4 + 2, none⟩ = some (.int .i64 v.2.2.1) ∧ w'.cell? ⟨b, off + i * 4 + 3, none⟩ = some (.int .i64 v.2.2.2))) (first | exact ⟨⟨k0, k1, k2, k3⟩, ⟨k4, k5, k6, k7⟩⟩ | exact hQ) (first
                | (go_at_call 32; refine (sHowS_is v u _ _ hm).mono ?_; rintro e w9 ⟨rfl, hb9⟩; have HB9 := Lib.hid (HB.out.drew.trans (hb9.mono HB.out.size)); have HO9 := Lib.hid ((HO.out.drew).belowAll hb9); have hQ := And.intro (cells4 (HO9.out.sees elSegment) HU.out) (cells4 (HO9.out.sees elSegment) HV.out)) | fail)
              all_goals
                go_wp2
                go_roundw
                case rel => exact ⟨j + 1, by omega, by go_num, Lib.hid (upto_step hq.out (smp_ok HU'.out HV'.out (HM.out.trans HWn.out.symm))), HO9, HB9⟩
                case measure => simp [intOf]; omega
            · obtain rfl : z = false := HZ.out.symm.trans (smp_no HU'.out HV'.out hlj (by rw [HM.out, HWn.out]; exact h1))
              go_wp2
              go_region_held3 (fun w' => (w'.cell? ⟨b, off + j * 4, none⟩ = some (.int .i64 u.1) ∧ w'.cell? ⟨b, off + j * 4 + 1, none⟩ = some (.int .i64 u.2.1) ∧ w'.cell? ⟨b, off + j * 4 + 2, none⟩ = some (.int .i64 u.2.2.1) ∧ w'.cell? ⟨b, off + j * 4 + 3, none⟩ = some (.int .i64 u.2.2.2)) ∧ (w'.cell? ⟨b, off + i * 4, none⟩ = some (.int .i64 v.1) ∧ w'.cell? ⟨b, off + i * 4 + 1, none⟩ = some (.int .i64 v.2.1) ∧ w'.cell? ⟨b, off + i * 4 + 2, none⟩ = some (.int .i64 v.2.2.1) ∧ w'.cell? ⟨b, off + i * 4 + 3, none⟩ = some (.int .i64 v.2.2.2))) (first | exact ⟨⟨k0, k1, k2, k3⟩, ⟨k4, k5, k6, k7⟩⟩ | exact hQ) (first
                | (go_at_call 32; refine (sHowS_is v u _ _ hm).mono ?_; rintro e w9 ⟨rfl, hb9⟩; have HB9 := Lib.hid (HB.out.drew.trans (hb9.mono HB.out.size)); have HO9 := Lib.hid ((HO.out.drew).belowAll hb9); have hQ := And.intro (cells4 (HO9.out.sees elSegment) HU.out) (cells4 (HO9.out.sees elSegment) HV.out)) | fail)
              all_goals
                go_wp2
                go_ret
                exact ⟨rfl, HB9.out⟩
        · obtain rfl : j = i := by omega
          go_wp2
          go_roundw
          case rel => exact ⟨j + 1, by omega, by go_num, Lib.hid (upto_step hp.out hq.out), HO, HB⟩
          case measure => simp [intOf]; omega
    · obtain rfl : i = L.length := by omega
      go_wp2_with (go_at_call 85; refine (sIsLine_is A c l _ ((HS.out.below HB.out).mono HB.out.size) hl z ?_).mono ?_)
      · rw [HL.out] at hp; exact (smp_all hp.out).trans HZ.out
      · rintro e w9 ⟨rfl, hb9⟩
        go_wp2
        go_ret
        exact ⟨rfl, HB.out.trans (hb9.mono HB.out.size)⟩
theorem mxS_step {n : Int} {s : Int × Int × Int × Int} {T : List (Int × Int × Int × Int)} {j : Nat} {x : Int × Int × Int × Int} (hx : T[j]? = some x) : extV true (mxS n s (T.take j)) (howS s x) = mxS n s (T.take (j + 1)) := by
  rw [List.take_add_one, hx]; exact (mxS_snoc _ _ _ _).symm
theorem mtV_step {S T : List (Int × Int × Int × Int)} {i : Nat} {u : Int × Int × Int × Int} (hu : S[i]? = some u) : mxS (mtV (S.take i) T) u T = mtV (S.take (i + 1)) T := by
  rw [List.take_add_one, hu]; exact (mtV_snoc _ _ _).symm
end Go.Proofs.YtbnjaaegbmhopaaDoor
end
section
/- Rings in the model: l7Segments, RotateRing, TurnRing. -/
namespace Go.Proofs.YtbnjaaegbmhopaaDoor
open Go.ChangeShapes Go.WideShapes Go.ChangeAt Go.RowKit
set_option linter.unusedVariables false

theorem keepAr {w : World} {p : Addr} {v : Value} (h : w.cell? p = some v) (o : Obj) : (w.alloc o).cell? p = some v :=
  (World.cell?_of_block (Below.heap_alloc _ _ _ (World.block_lt_of_cell? w p h))).trans h
theorem rgs_step {S L L2 : List (Int × Int × Int × Int)} {j : Nat} {x : Int × Int × Int × Int} (hL : L = S.take j) (h : L2 = L ++ [x]) (hx : S[j]? = some x) : L2 = S.take (j + 1) := by
  rw [h, hL, List.take_add_one, hx]; rfl
set_option maxRecDepth 100000 in
set_option maxHeartbeats 1000000 in
theorem l7Segments_any (A : Option Addr) (c : Nat) (l : List (Int × Int)) (w : World) (hs : SeesE 2 encPoint w w.heap.size A l) (hl : l.length ≤ 274877906944) :
    Calls Tryd.prog 30 #[.slice A l.length c] w (GivesE 4 encSegment 53 (rgS l) w) := by
  have HS := Lib.hid hs; clear hs
  have hrl := rgS_len l
  go_enter Tryd.func30, Tryd.ntmps30
  go_wp2
  go_loopw [3, 4] (fun v i wr => ∃ (A1 : Option Addr) (c1 : Nat) (L : List (Int × Int × Int × Int)) (j : Nat), v = .slice A1 L.length c1 ∧ i = .int .i64 (j : Int) ∧ j ≤ l.length ∧ Hid (L = (rgS l).take j) ∧ Hid (L.length = j) ∧ Hid (OwnE 4 encSegment wr w.heap.size 53 (.slice A1 L.length c1) L) ∧ Hid (Below w.heap.size w wr)) (fun _ i _ => l.length - (intOf i).toNat)
  case atStart => exact ⟨_, _, [], 0, rfl, rfl, Nat.zero_le _, Lib.hid (by simp), Lib.hid rfl, Lib.hid (OwnE.lit w _ _ (Nat.le_refl _)), Lib.hid ((Below.refl _ _).alloc (Nat.le_refl _) _)⟩
  case round =>
    obtain ⟨A1, c1, L, j, rfl, rfl, hj, hL, HN, HO, HB⟩ := hrel
    by_cases hlt : j < l.length
    · have hlt' : (j : Int) < (l.length : Int) := by omega
      have hrem2 : wrap64 ((j : Int) + 1) = (j : Int) + 1 := by unfold wrap64; omega
      have hrem3 : IntKind.i64.wrap ((j : Int) + 1) = (j : Int) + 1 := IntWalk.i64_in _ (by omega)
      obtain ⟨⟨x0, x1⟩, hx⟩ : ∃ p, l[j]? = some p := ⟨_, List.getElem?_eq_getElem hlt⟩
      obtain ⟨k, hk, hkl⟩ : ∃ k, (j + 1) % l.length = k ∧ k < l.length := ⟨_, rfl, Nat.mod_lt _ (by omega)⟩
      obtain ⟨⟨y0, y1⟩, hy⟩ : ∃ p, l[k]? = some p := ⟨_, List.getElem?_eq_getElem hkl⟩
      have HJ : Hid ((rgS l)[j]? = some (x0, x1, y0, y1)) := Lib.hid (rgS_get hx (by rw [hk]; exact hy))
      obtain ⟨b, off, rfl, hbl, -⟩ := HS.out j _ hx
      obtain ⟨k0, k1⟩ := cellsPoint (HS.out.below HB.out) hx
      obtain ⟨k2, k3⟩ := cellsPoint (HS.out.below HB.out) hy
      have hkl' : (k : Int) < (l.length : Int) := by omega
      have hne : ¬ ((l.length : Int) = 0) := by omega
      have hne2 : ¬ (l = []) := fun e => by rw [e] at hlt; simp at hlt
      have hone : L.length + [(x0, x1, y0, y1)].length ≤ 1099511627776 := by rw [HN.out]; simp; omega
      have d0 : wr.drew.cell? ⟨b, off + j * 2, none⟩ = some (.int .i64 x0) := k0
      have d1 : wr.drew.cell? ⟨b, off + j * 2 + 1, none⟩ = some (.int .i64 x1) := k1
      have d2 : wr.drew.cell? ⟨b, off + k * 2, none⟩ = some (.int .i64 y0) := k2
      have d3 : wr.drew.cell? ⟨b, off + k * 2 + 1, none⟩ = some (.int .i64 y1) := k3
      have HQ1 := Lib.hid (And.intro d0 (And.intro d1 (And.intro d2 d3)))
      have HQ2 := Lib.hid (And.intro (keepAr d0 (.cells (sC (x0, x1, y0, y1)) 53)) (And.intro (keepAr d1 (.cells (sC (x0, x1, y0, y1)) 53)) (And.intro (keepAr d2 (.cells (sC (x0, x1, y0, y1)) 53)) (keepAr d3 (.cells (sC (x0, x1, y0, y1)) 53)))))
      clear d0 d1 d2 d3
      have HB2 := Lib.hid (HB.out.drew.alloc HB.out.size (.cells (sC (x0, x1, y0, y1)) 53))
      have HO2 := Lib.hid (HO.out.drew.alloc (.cells (sC (x0, x1, y0, y1)) 53))
      have HX2 := Lib.hid (seesE_new elSegment wr.drew (x0, x1, y0, y1) (sC (x0, x1, y0, y1)) 53 (wr.drew.heap.size + 1) (Nat.lt_succ_self _) rfl)
      have hrem : ((j : Int) + 1).tmod (l.length : Int) = (k : Int) := by
        rw [Int.tmod_eq_emod_of_nonneg (by omega)]; exact_mod_cast hk
      clear hx hy hk
      go_wp2
      go_region_held3 (fun w' => w'.cell? ⟨b, off + j * 2, none⟩ = some (.int .i64 x0) ∧ w'.cell? ⟨b, off + j * 2 + 1, none⟩ = some (.int .i64 x1) ∧ w'.cell? ⟨b, off + k * 2, none⟩ = some (.int .i64 y0) ∧ w'.cell? ⟨b, off + k * 2 + 1, none⟩ = some (.int .i64 y1)) (first | with_reducible exact ⟨k0, k1, k2, k3⟩ | with_reducible exact HQ1.out | with_reducible exact HQ2.out | exact ⟨keepAr k0 _, keepAr k1 _, keepAr k2 _, keepAr k3 _⟩ | with_reducible exact hc4.out) (first
        | (refine stepSg (wr.drew.alloc (.cells (sC (x0, x1, y0, y1)) 53)) _ _ (by rfl) w.heap.size (.slice A1 L.length c1) L (by rfl) HO2.out (wr.drew.heap.size + 1) (some ⟨wr.drew.heap.size, 0, none⟩) 1 1 [(x0, x1, y0, y1)] (by rfl) (by rfl) HX2.out hone HB2.out.size ?_; intro A4 c4 L4 w4 hL4 h1 h2 ho4 hb4; have hc4 := Lib.hid (And.intro ((hb4.cell (p := ⟨b, off + j * 2, none⟩) hbl).trans HQ2.out.1) (And.intro ((hb4.cell (p := ⟨b, off + j * 2 + 1, none⟩) hbl).trans HQ2.out.2.1) (And.intro ((hb4.cell (p := ⟨b, off + k * 2, none⟩) hbl).trans HQ2.out.2.2.1) ((hb4.cell (p := ⟨b, off + k * 2 + 1, none⟩) hbl).trans HQ2.out.2.2.2))))) | fail)
      go_wp2
      go_roundw
      case rel => exact ⟨A4, c4, L4, j + 1, rfl, by go_num, by omega, Lib.hid (rgs_step hL.out hL4.out HJ.out), Lib.hid (by have := HN.out; simp at h1 h2; omega), Lib.hid ho4, Lib.hid (HB2.out.trans hb4)⟩
      case measure => simp [intOf]; omega
    · obtain rfl : j = l.length := by omega
      go_wp2
      go_ret
      exact ⟨A1, c1, L, Lib.hid (by rw [hL.out, List.take_of_length_le (by omega)]), rfl, HO.out, HB.out⟩
end Go.Proofs.YtbnjaaegbmhopaaDoor
end
section
/- Rings in the model: IsRing and RingSegments. -/
namespace Go.Proofs.YtbnjaaegbmhopaaDoor
open Go.ChangeShapes Go.WideShapes Go.ChangeAt Go.RowKit
set_option linter.unusedVariables false

theorem sIsSegS_is (s : Int × Int × Int × Int) (k : Bool) (w : World) (h : sOk s = k) :
    Calls Tryd.prog 31 #[sV s] w fun e w' => e = .returned (.bool k) ∧ Below w.heap.size w w' := sIsSegment_is _ _ _ _ k w h
theorem rg_no_seg {l : List (Int × Int)} {i : Nat} {s : Int × Int × Int × Int} (hs : (rgS l)[i]? = some s) (h : sOk s = false) : isRg l = false := by
  cases hh : isRg l
  · rfl
  · rw [((isRg_iff l).1 hh).2.1 s (List.mem_of_getElem? hs)] at h; cases h
theorem rg_no_turn {l : List (Int × Int)} {i k : Nat} {u v : Int × Int × Int × Int} (hi : (rgS l)[i]? = some u) (hk : (rgS l)[k]? = some v) (hik : i < k) (h : ¬ howS u v = wantC true (rgS l).length i k) : isRg l = false := by
  rw [isRg_turn, turn_no hi hk hik h, Bool.and_false]
set_option maxRecDepth 100000 in
set_option maxHeartbeats 2000000 in
theorem sIsRing_is (A : Option Addr) (c : Nat) (l : List (Int × Int)) (w : World) (hs : SeesE 2 encPoint w w.heap.size A l) (hl : l.length ≤ 274877906944) (z : Bool) (hz : isRg l = z) :
    Calls Tryd.prog 9 #[.slice A l.length c] w fun e w' => e = .returned (.bool z) ∧ Below w.heap.size w w' := by
  have HS := Lib.hid hs
  have HZ := Lib.hid hz
  clear hs hz
  go_enter Tryd.func9, Tryd.ntmps9
  cases hin : inB l.length 3 10
  · obtain rfl : z = false := by rw [← HZ.out, isRg_turn, hin]; rfl
    go_wp2_with (go_at_call 29; refine (l1in_is _ _ _ _ _ hin).mono ?_; rintro e w1 ⟨rfl, rfl⟩)
    go_ret
    exact ⟨rfl, Below.refl _ _⟩
  · have h310 : 3 ≤ l.length ∧ l.length ≤ 10 := by simp only [inB, decide_eq_true_eq] at hin; omega
    go_wp2_with (first
      | (go_at_call 29; refine (l1in_is _ _ _ _ _ hin).mono ?_; rintro e w1 ⟨rfl, rfl⟩)
      | (go_at_call 30; refine (l7Segments_any A c l _ HS.out hl).mono ?_; rintro e w1 ⟨A1, c1, L, hL, rfl, ho1, hb1⟩))
    have HO1 := Lib.hid ho1; have HB1 := Lib.hid hb1; have HL := hL
    have h10 : L.length ≤ 10 := by rw [hL.out, rgS_len]; exact h310.2
    have HTV : Hid (turnV true L = z) := Lib.hid (by rw [← HZ.out, isRg_turn, hin, Bool.true_and, HL.out])
    clear ho1 hb1 hL h310
    go_loopw [4] (fun i wr => ∃ j : Nat, j ≤ L.length ∧ i = .int .i64 j ∧ Hid (∀ k, k < j → ∀ i, i < k → prOk true L i k = true) ∧ Hid (OwnE 4 encSegment wr w.heap.size 53 (.slice A1 L.length c1) L) ∧ Hid (Below w.heap.size w wr)) (fun i _ => L.length - (intOf i).toNat)
    case atStart => exact ⟨0, Nat.zero_le _, rfl, Lib.hid (fun k hk => by omega), HO1, HB1⟩
    case round =>
      obtain ⟨i, hi, rfl, hp, HO, HB⟩ := hrel
      clear HO1 HB1
      by_cases hlt : i < L.length
      · have hli : (i : Int) < (L.length : Int) := by omega
        obtain ⟨b, off, v, rfl, hbl, hv, -⟩ := (HO.out.sees elSegment).lt hlt
        obtain ⟨k4, k5, k6, k7⟩ := cells4 (HO.out.sees elSegment) hv
        have HV := Lib.hid hv
        have HV' : Hid ((rgS l)[i]? = some v) := Lib.hid (by rw [← HL.out]; exact hv)
        clear hv
        cases hok : sOk v
        · obtain rfl : z = false := HZ.out.symm.trans (rg_no_seg HV'.out hok)
          go_wp2_with (go_at_call 31; refine (sIsSegS_is v false _ hok).mono ?_; rintro e w9 ⟨rfl, hb9⟩)
          go_ret
          exact ⟨rfl, HB.out.trans (hb9.mono HB.out.size)⟩
        · go_wp2_with (go_at_call 31; refine (sIsSegS_is v true _ hok).mono ?_; rintro e w9 ⟨rfl, hb9⟩; have HB9 := Lib.hid (HB.out.trans (hb9.mono HB.out.size)); have HO9 := Lib.hid (HO.out.belowAll hb9))
          clear hb9 k4 k5 k6 k7
          go_loopw [5] (fun k wx => ∃ j : Nat, j ≤ i ∧ k = .int .i64 j ∧ Hid (∀ q, q < j → prOk true L q i = true) ∧ Hid (OwnE 4 encSegment wx w.heap.size 53 (.slice (some ⟨b, off, none⟩) L.length c1) L) ∧ Hid (Below w.heap.size w wx)) (fun k _ => i - (intOf k).toNat)
          case atStart => exact ⟨0, Nat.zero_le _, rfl, Lib.hid (fun k hk => by omega), HO9, HB9⟩
          case round =>
            obtain ⟨j, hj, rfl, hq, HO, HB⟩ := hrel
            by_cases hlj : j < i
            · have hlj' : (j : Int) < (L.length : Int) := by omega
              have hlj2 : (j : Int) < (i : Int) := by omega
              obtain ⟨u, hu⟩ : ∃ u, L[j]? = some u := ⟨_, List.getElem?_eq_getElem (by omega)⟩
              obtain ⟨k0, k1, k2, k3⟩ := cells4 (HO.out.sees elSegment) hu
              obtain ⟨k4, k5, k6, k7⟩ := cells4 (HO.out.sees elSegment) HV.out
              have HU := Lib.hid hu
              have HU' : Hid ((rgS l)[j]? = some u) := Lib.hid (by rw [← HL.out]; exact hu)
              clear hu
              obtain ⟨m, hm⟩ : ∃ m, howS v u = m := ⟨_, rfl⟩
              have HM : Hid (howS u v = m) := Lib.hid (by rw [← hm]; exact howS_comm v u)
              have hw1 : wrap64 ((j : Int) + 1) = (j : Int) + 1 := by unfold wrap64; omega
              have hw2 : wrap64 ((i : Int) + 1) = (i : Int) + 1 := by unfold wrap64; omega
              by_cases he : j + 1 = i
              · have he1 : ((j : Int) + 1 == (i : Int)) = true := by simp; omega
                have he2 : (j : Int) + 1 = (i : Int) := by omega
                have HWn : Hid (wantC true L.length j i = 1) := Lib.hid (if_pos (.inl he))
                by_cases h1 : m = 1
                · subst h1
                  go_wp2
                  go_region_held3 (fun w' => (w'.cell? ⟨b, off + j * 4, none⟩ = some (.int .i64 u.1) ∧ w'.cell? ⟨b, off + j * 4 + 1, none⟩ = some (.int .i64 u.2.1) ∧ w'.cell? ⟨b, off + j * 4 + 2, none⟩ = some (.int .i64 u.2.2.1) ∧ w'.cell? ⟨b, off + j * 4 + 3, none⟩ = some (.int .i64 u.2.2.2)) ∧ (w'.cell? ⟨b, off + i * 4, none⟩ = some (.int .i64 v.1) ∧ w'.cell? ⟨b, off + i * 4 + 1, none⟩ = some (.int .i64 v.2.1) ∧ w'.cell? ⟨b, off + i * 4 + 2, none⟩ = some (.int .i64 v.2.2.1) ∧ w'.cell? ⟨b, off + i * 4 + 3, none⟩ = some (.int .i64 v.2.2.2))) (first | exact ⟨⟨k0, k1, k2, k3⟩, ⟨k4, k5, k6, k7⟩⟩ | exact hQ) (first
                    | (go_at_call 32; refine (sHowS_is v u _ _ hm).mono ?_; rintro e w9 ⟨rfl, hb9⟩; have HB9 := Lib.hid (HB.out.drew.trans (hb9.mono HB.out.size)); have HO9 := Lib.hid ((HO.out.drew).belowAll hb9); have hQ := And.intro (cells4 (HO9.out.sees elSegment) HU.out) (cells4 (HO9.out.sees elSegment) HV.out)) | fail)
                  all_goals
                    go_wp2
                    go_roundw
                    case rel => exact ⟨j + 1, by omega, by go_num, Lib.hid (upto_step hq.out (pr_ok HU.out HV.out (HM.out.trans HWn.out.symm))), HO9, HB9⟩
                    case measure => simp [intOf]; omega
                · obtain rfl : z = false := HZ.out.symm.trans (rg_no_turn HU'.out HV'.out hlj (by rw [← HL.out, HM.out, HWn.out]; exact h1))
                  go_wp2
                  go_region_held3 (fun w' => (w'.cell? ⟨b, off + j * 4, none⟩ = some (.int .i64 u.1) ∧ w'.cell? ⟨b, off + j * 4 + 1, none⟩ = some (.int .i64 u.2.1) ∧ w'.cell? ⟨b, off + j * 4 + 2, none⟩ = some (.int .i64 u.2.2.1) ∧ w'.cell? ⟨b, off + j * 4 + 3, none⟩ = some (.int .i64 u.2.2.2)) ∧ (w'.cell? ⟨b, off + i * 4, none⟩ = some (.int .i64 v.1) ∧ w'.cell? ⟨b, off + i * 4 + 1, none⟩ = some (.int .i64 v.2.1) ∧ w'.cell? ⟨b, off + i * 4 + 2, none⟩ = some (.int .i64 v.2.2.1) ∧ w'.cell? ⟨b, off + i * 4 + 3, none⟩ = some (.int .i64 v.2.2.2))) (first | exact ⟨⟨k0, k1, k2, k3⟩, ⟨k4, k5, k6, k7⟩⟩ | exact hQ) (first
                    | (go_at_call 32; refine (sHowS_is v u _ _ hm).mono ?_; rintro e w9 ⟨rfl, hb9⟩; have HB9 := Lib.hid (HB.out.drew.trans (hb9.mono HB.out.size)); have HO9 := Lib.hid ((HO.out.drew).belowAll hb9); have hQ := And.intro (cells4 (HO9.out.sees elSegment) HU.out) (cells4 (HO9.out.sees elSegment) HV.out)) | fail)
                  all_goals
                    go_wp2
                    go_ret
                    exact ⟨rfl, HB9.out⟩
              · have he1 : ((j : Int) + 1 == (i : Int)) = false := by simp; omega
                have he2 : ¬ ((j : Int) + 1 = (i : Int)) := by omega
                by_cases hj0 : j = 0
                · have hj1 : ((j : Int) == 0) = true := by simp; omega
                  have HJ0 := Lib.hid hj0
                  clear hj0
                  by_cases hi0 : i + 1 = L.length
                  · have hi1 : ((i : Int) + 1 == (L.length : Int)) = true := by simp; omega
                    have hi2 : (i : Int) + 1 = (L.length : Int) := by omega
                    have HWn : Hid (wantC true L.length j i = 1) := Lib.hid (if_pos (.inr ⟨rfl, HJ0.out, hi0⟩))
                    by_cases h1 : m = 1
                    · subst h1
                      go_wp2
                      go_region_held3 (fun w' => (w'.cell? ⟨b, off + j * 4, none⟩ = some (.int .i64 u.1) ∧ w'.cell? ⟨b, off + j * 4 + 1, none⟩ = some (.int .i64 u.2.1) ∧ w'.cell? ⟨b, off + j * 4 + 2, none⟩ = some (.int .i64 u.2.2.1) ∧ w'.cell? ⟨b, off + j * 4 + 3, none⟩ = some (.int .i64 u.2.2.2)) ∧ (w'.cell? ⟨b, off + i * 4, none⟩ = some (.int .i64 v.1) ∧ w'.cell? ⟨b, off + i * 4 + 1, none⟩ = some (.int .i64 v.2.1) ∧ w'.cell? ⟨b, off + i * 4 + 2, none⟩ = some (.int .i64 v.2.2.1) ∧ w'.cell? ⟨b, off + i * 4 + 3, none⟩ = some (.int .i64 v.2.2.2))) (first | exact ⟨⟨k0, k1, k2, k3⟩, ⟨k4, k5, k6, k7⟩⟩ | exact hQ) (first
                        | (go_at_call 32; refine (sHowS_is v u _ _ hm).mono ?_; rintro e w9 ⟨rfl, hb9⟩; have HB9 := Lib.hid (HB.out.drew.trans (hb9.mono HB.out.size)); have HO9 := Lib.hid ((HO.out.drew).belowAll hb9); have hQ := And.intro (cells4 (HO9.out.sees elSegment) HU.out) (cells4 (HO9.out.sees elSegment) HV.out)) | fail)
                      all_goals
                        go_wp2
                        go_roundw
                        case rel => exact ⟨j + 1, by omega, by go_num, Lib.hid (upto_step hq.out (pr_ok HU.out HV.out (HM.out.trans HWn.out.symm))), HO9, HB9⟩
                        case measure => simp [intOf]; omega
                    · obtain rfl : z = false := HZ.out.symm.trans (rg_no_turn HU'.out HV'.out hlj (by rw [← HL.out, HM.out, HWn.out]; exact h1))
                      go_wp2
                      go_region_held3 (fun w' => (w'.cell? ⟨b, off + j * 4, none⟩ = some (.int .i64 u.1) ∧ w'.cell? ⟨b, off + j * 4 + 1, none⟩ = some (.int .i64 u.2.1) ∧ w'.cell? ⟨b, off + j * 4 + 2, none⟩ = some (.int .i64 u.2.2.1) ∧ w'.cell? ⟨b, off + j * 4 + 3, none⟩ = some (.int .i64 u.2.2.2)) ∧ (w'.cell? ⟨b, off + i * 4, none⟩ = some (.int .i64 v.1) ∧ w'.cell? ⟨b, off + i * 4 + 1, none⟩ = some (.int .i64 v.2.1) ∧ w'.cell? ⟨b, off + i * 4 + 2, none⟩ = some (.int .i64 v.2.2.1) ∧ w'.cell? ⟨b, off + i * 4 + 3, none⟩ = some (.int .i64 v.2.2.2))) (first | exact ⟨⟨k0, k1, k2, k3⟩, ⟨k4, k5, k6, k7⟩⟩ | exact hQ) (first
                        | (go_at_call 32; refine (sHowS_is v u _ _ hm).mono ?_; rintro e w9 ⟨rfl, hb9⟩; have HB9 := Lib.hid (HB.out.drew.trans (hb9.mono HB.out.size)); have HO9 := Lib.hid ((HO.out.drew).belowAll hb9); have hQ := And.intro (cells4 (HO9.out.sees elSegment) HU.out) (cells4 (HO9.out.sees elSegment) HV.out)) | fail)
                      all_goals
                        go_wp2
                        go_ret
                        exact ⟨rfl, HB9.out⟩
                  · have hi1 : ((i : Int) + 1 == (L.length : Int)) = false := by simp; omega
                    have hi2 : ¬ ((i : Int) + 1 = (L.length : Int)) := by omega
                    have HWn : Hid (wantC true L.length j i = 0) := Lib.hid (if_neg (by simp; omega))
                    by_cases h1 : m = 0
                    · subst h1
                      go_wp2
                      go_region_held3 (fun w' => (w'.cell? ⟨b, off + j * 4, none⟩ = some (.int .i64 u.1) ∧ w'.cell? ⟨b, off + j * 4 + 1, none⟩ = some (.int .i64 u.2.1) ∧ w'.cell? ⟨b, off + j * 4 + 2, none⟩ = some (.int .i64 u.2.2.1) ∧ w'.cell? ⟨b, off + j * 4 + 3, none⟩ = some (.int .i64 u.2.2.2)) ∧ (w'.cell? ⟨b, off + i * 4, none⟩ = some (.int .i64 v.1) ∧ w'.cell? ⟨b, off + i * 4 + 1, none⟩ = some (.int .i64 v.2.1) ∧ w'.cell? ⟨b, off + i * 4 + 2, none⟩ = some (.int .i64 v.2.2.1) ∧ w'.cell? ⟨b, off + i * 4 + 3, none⟩ = some (.int .i64 v.2.2.2))) (first | exact ⟨⟨k0, k1, k2, k3⟩, ⟨k4, k5, k6, k7⟩⟩ | exact hQ) (first
                        | (go_at_call 32; refine (sHowS_is v u _ _ hm).mono ?_; rintro e w9 ⟨rfl, hb9⟩; have HB9 := Lib.hid (HB.out.drew.trans (hb9.mono HB.out.size)); have HO9 := Lib.hid ((HO.out.drew).belowAll hb9); have hQ := And.intro (cells4 (HO9.out.sees elSegment) HU.out) (cells4 (HO9.out.sees elSegment) HV.out)) | fail)
                      all_goals
                        go_wp2
                        go_roundw
                        case rel => exact ⟨j + 1, by omega, by go_num, Lib.hid (upto_step hq.out (pr_ok HU.out HV.out (HM.out.trans HWn.out.symm))), HO9, HB9⟩
                        case measure => simp [intOf]; omega
                    · obtain rfl : z = false := HZ.out.symm.trans (rg_no_turn HU'.out HV'.out hlj (by rw [← HL.out, HM.out, HWn.out]; exact h1))
                      go_wp2
                      go_region_held3 (fun w' => (w'.cell? ⟨b, off + j * 4, none⟩ = some (.int .i64 u.1) ∧ w'.cell? ⟨b, off + j * 4 + 1, none⟩ = some (.int .i64 u.2.1) ∧ w'.cell? ⟨b, off + j * 4 + 2, none⟩ = some (.int .i64 u.2.2.1) ∧ w'.cell? ⟨b, off + j * 4 + 3, none⟩ = some (.int .i64 u.2.2.2)) ∧ (w'.cell? ⟨b, off + i * 4, none⟩ = some (.int .i64 v.1) ∧ w'.cell? ⟨b, off + i * 4 + 1, none⟩ = some (.int .i64 v.2.1) ∧ w'.cell? ⟨b, off + i * 4 + 2, none⟩ = some (.int .i64 v.2.2.1) ∧ w'.cell? ⟨b, off + i * 4 + 3, none⟩ = some (.int .i64 v.2.2.2))) (first | exact ⟨⟨k0, k1, k2, k3⟩, ⟨k4, k5, k6, k7⟩⟩ | exact hQ) (first
                        | (go_at_call 32; refine (sHowS_is v u _ _ hm).mono ?_; rintro e w9 ⟨rfl, hb9⟩; have HB9 := Lib.hid (HB.out.drew.trans (hb9.mono HB.out.size)); have HO9 := Lib.hid ((HO.out.drew).belowAll hb9); have hQ := And.intro (cells4 (HO9.out.sees elSegment) HU.out) (cells4 (HO9.out.sees elSegment) HV.out)) | fail)
                      all_goals
                        go_wp2
                        go_ret
                        exact ⟨rfl, HB9.out⟩
                · have hj1 : ((j : Int) == 0) = false := by simp; omega
                  have hj2 : ¬ ((j : Int) = 0) := by omega
                  have HWn : Hid (wantC true L.length j i = 0) := Lib.hid (if_neg (by simp; omega))
                  by_cases h1 : m = 0
                  · subst h1
                    go_wp2
                    go_region_held3 (fun w' => (w'.cell? ⟨b, off + j * 4, none⟩ = some (.int .i64 u.1) ∧ w'.cell? ⟨b, off + j * 4 + 1, none⟩ = some (.int .i64 u.2.1) ∧ w'.cell? ⟨b, off + j * 4 + 2, none⟩ = some (.int .i64 u.2.2.1) ∧ w'.cell? ⟨b, off + j * 4 + 3, none⟩ = some (.int .i64 u.2.2.2)) ∧ (w'.cell? ⟨b, off + i * 4, none⟩ = some (.int .i64 v.1) ∧ w'.cell? ⟨b, off + i * 4 + 1, none⟩ = some (.int .i64 v.2.1) ∧ w'.cell? ⟨b, off + i * 4 + 2, none⟩ = some (.int .i64 v.2.2.1) ∧ w'.cell? ⟨b, off + i * 4 + 3, none⟩ = some (.int .i64 v.2.2.2))) (first | exact ⟨⟨k0, k1, k2, k3⟩, ⟨k4, k5, k6, k7⟩⟩ | exact hQ) (first
                      | (go_at_call 32; refine (sHowS_is v u _ _ hm).mono ?_; rintro e w9 ⟨rfl, hb9⟩; have HB9 := Lib.hid (HB.out.drew.trans (hb9.mono HB.out.size)); have HO9 := Lib.hid ((HO.out.drew).belowAll hb9); have hQ := And.intro (cells4 (HO9.out.sees elSegment) HU.out) (cells4 (HO9.out.sees elSegment) HV.out)) | fail)
                    all_goals
                      go_wp2
                      go_roundw
                      case rel => exact ⟨j + 1, by omega, by go_num, Lib.hid (upto_step hq.out (pr_ok HU.out HV.out (HM.out.trans HWn.out.symm))), HO9, HB9⟩
                      case measure => simp [intOf]; omega
                  · obtain rfl : z = false := HZ.out.symm.trans (rg_no_turn HU'.out HV'.out hlj (by rw [← HL.out, HM.out, HWn.out]; exact h1))
                    go_wp2
                    go_region_held3 (fun w' => (w'.cell? ⟨b, off + j * 4, none⟩ = some (.int .i64 u.1) ∧ w'.cell? ⟨b, off + j * 4 + 1, none⟩ = some (.int .i64 u.2.1) ∧ w'.cell? ⟨b, off + j * 4 + 2, none⟩ = some (.int .i64 u.2.2.1) ∧ w'.cell? ⟨b, off + j * 4 + 3, none⟩ = some (.int .i64 u.2.2.2)) ∧ (w'.cell? ⟨b, off + i * 4, none⟩ = some (.int .i64 v.1) ∧ w'.cell? ⟨b, off + i * 4 + 1, none⟩ = some (.int .i64 v.2.1) ∧ w'.cell? ⟨b, off + i * 4 + 2, none⟩ = some (.int .i64 v.2.2.1) ∧ w'.cell? ⟨b, off + i * 4 + 3, none⟩ = some (.int .i64 v.2.2.2))) (first | exact ⟨⟨k0, k1, k2, k3⟩, ⟨k4, k5, k6, k7⟩⟩ | exact hQ) (first
                      | (go_at_call 32; refine (sHowS_is v u _ _ hm).mono ?_; rintro e w9 ⟨rfl, hb9⟩; have HB9 := Lib.hid (HB.out.drew.trans (hb9.mono HB.out.size)); have HO9 := Lib.hid ((HO.out.drew).belowAll hb9); have hQ := And.intro (cells4 (HO9.out.sees elSegment) HU.out) (cells4 (HO9.out.sees elSegment) HV.out)) | fail)
                    all_goals
                      go_wp2
                      go_ret
                      exact ⟨rfl, HB9.out⟩
            · obtain rfl : j = i := by omega
              go_wp2
              go_roundw
              case rel => exact ⟨j + 1, by omega, by go_num, Lib.hid (upto_step hp.out hq.out), HO, HB⟩
              case measure => simp [intOf]; omega
      · obtain rfl : i = L.length := by omega
        obtain rfl : z = true := HTV.out.symm.trans (turn_yes hp.out)
        go_wp2
        go_ret
        exact ⟨rfl, HB.out⟩
end Go.Proofs.YtbnjaaegbmhopaaDoor
end
section
/- Features: IsFeature of the model. -/
namespace Go.Proofs.YtbnjaaegbmhopaaDoor
open Go.ChangeShapes Go.WideShapes Go.ChangeAt Go.RowKit
set_option linter.unusedVariables false

theorem feat_1 {a k r : Int} {s : ByteArray} {ps : List (Int × Int)} (h : inB a 1 99 = false) : featV (a, k, r, s, ps) = false := by simp [featV, h]
theorem feat_2 {a k r : Int} {s : ByteArray} {ps : List (Int × Int)} (h : inB r 0 9 = false) : featV (a, k, r, s, ps) = false := by simp [featV, h]
theorem feat_3 {a k r : Int} {s : ByteArray} {ps : List (Int × Int)} (h : ¬ s.size = 0) (h' : nameV s = false) : featV (a, k, r, s, ps) = false := by simp only [featV, h', decide_eq_false h, Bool.false_or, Bool.false_and, Bool.and_false]
theorem feat_4 {a k r : Int} {s : ByteArray} {ps : List (Int × Int)} (h1 : inB a 1 99 = true) (h2 : inB r 0 9 = true) (h3 : s.size = 0 ∨ nameV s = true) : featV (a, k, r, s, ps) = shapeV k ps := by
  have : (decide (s.size = 0) || nameV s) = true := by rcases h3 with h | h <;> simp [h]
  simp only [featV, h1, h2, this, Bool.true_and]
theorem shape_1 (ps : List (Int × Int)) : shapeV 1 ps = onePt ps := rfl
theorem shape_2 (ps : List (Int × Int)) : shapeV 2 ps = smpV ps := rfl
theorem shape_3 (ps : List (Int × Int)) : shapeV 3 ps = isRg ps := rfl
theorem shape_0 {k : Int} (ps : List (Int × Int)) (h1 : ¬ k = 1) (h2 : ¬ k = 2) (h3 : ¬ k = 3) : shapeV k ps = false := by simp [shapeV, h1, h2, h3]
theorem one_no {ps : List (Int × Int)} (h : ¬ ps.length = 1) : onePt ps = false := by
  match ps, h with
  | [], _ => rfl
  | [p], h => simp at h
  | _ :: _ :: _, _ => rfl
theorem empty_iff (s : ByteArray) : (s = ⟨#[]⟩) ↔ s.size = 0 := by
  constructor
  · rintro rfl; rfl
  · intro h
    obtain ⟨d⟩ := s
    have : d = #[] := Array.eq_empty_of_size_eq_zero h
    rw [this]
theorem empty_is (s : ByteArray) {z : Bool} (h : decide (s.size = 0) = z) : s.toList.isEmpty = z := by
  have hl : s.data.toList.length = s.size := Array.length_toList
  rw [← h, ByteArray.toList_eq, ← hl]
  cases s.data.toList <;> simp
set_option maxRecDepth 100000 in
set_option maxHeartbeats 2000000 in
theorem sIsFeature_is (a k r : Int) (s : ByteArray) (A : Option Addr) (c : Nat) (ps : List (Int × Int)) (z : Bool) (w : World) (hs : SeesE 2 encPoint w w.heap.size A ps) (hl : ps.length ≤ 274877906944) (hm : s.size ≤ maxLen) (hz : featV (a, k, r, s, ps) = z) :
    Calls Tryd.prog 65 #[FtV a k r s A ps.length c] w fun e w' => e = .returned (.bool z) ∧ Below w.heap.size w w' := by
  have HV := Lib.hid (Vars.of1 w (FtC a k r s A ps.length c) 46)
  have HS := Lib.hid hs
  have HZ := Lib.hid hz
  have HM := Lib.hid hm
  clear hs hz hm
  go_enter Tryd.func65, Tryd.ntmps65
  cases h1 : inB a 1 99
  · obtain rfl : false = z := (feat_1 h1).symm.trans HZ.out
    go_wp2_with fail
    refine (l1in_is _ _ _ false _ h1).mono ?_
    rintro e w1 ⟨rfl, rfl⟩
    go_wp2
    go_ret
    exact ⟨rfl, HV.out.1⟩
  cases h2 : inB r 0 9
  · obtain rfl : false = z := (feat_2 h2).symm.trans HZ.out
    go_wp2_with fail
    refine (l1in_is _ _ _ true _ h1).mono ?_
    rintro e w1 ⟨rfl, rfl⟩
    go_wp2_with fail
    refine (l1in_is _ _ _ false _ h2).mono ?_
    rintro e w1 ⟨rfl, rfl⟩
    go_wp2
    go_ret
    exact ⟨rfl, HV.out.1⟩
  obtain ⟨n, hn⟩ : ∃ n, nameV s = n := ⟨_, rfl⟩
  obtain ⟨m, hm⟩ : ∃ m, decide (s.size = 0) = m := ⟨_, rfl⟩
  have he := empty_is s hm
  by_cases hbad : m = false ∧ n = false
  · obtain ⟨rfl, rfl⟩ := hbad
    obtain rfl : false = z := (feat_3 (of_decide_eq_false hm) hn).symm.trans HZ.out
    clear hm
    go_wp2_with fail
    refine (l1in_is _ _ _ true _ h1).mono ?_
    rintro e w1 ⟨rfl, rfl⟩
    go_wp2_with fail
    refine (l1in_is _ _ _ true _ h2).mono ?_
    rintro e w1 ⟨rfl, rfl⟩
    go_wp2_with fail
    refine (sIsName_is s false _ HM.out hn).mono ?_
    rintro e w1 ⟨rfl, rfl⟩
    go_wp2
    go_ret
    exact ⟨rfl, HV.out.1⟩
  have HX : Hid (shapeV k ps = z) := Lib.hid (by
    rw [← feat_4 (s := s) h1 h2 ?_]; exact HZ.out
    cases m
    · cases n
      · exact absurd ⟨rfl, rfl⟩ hbad
      · exact .inr hn
    · exact .inl (of_decide_eq_true hm))
  go_upto_region 1 with fail
  go_cut [23] (fun s23 wx => s23 = .bool false ∧ Hid (Vars w wx [FtC a k r s A ps.length c]))
  case first =>
    cases m
    · cases n
      · exact absurd ⟨rfl, rfl⟩ hbad
      · clear hm hbad
        go_wp2_with fail
        refine (l1in_is _ _ _ true _ h1).mono ?_
        rintro e w1 ⟨rfl, rfl⟩
        go_wp2_with fail
        refine (l1in_is _ _ _ true _ h2).mono ?_
        rintro e w1 ⟨rfl, rfl⟩
        go_wp2_with fail
        refine (sIsName_is s true _ HM.out hn).mono ?_
        rintro e w1 ⟨rfl, rfl⟩
        go_wp2
        go_meet
        exact ⟨rfl, HV⟩
    · clear hm hbad
      go_wp2_with fail
      refine (l1in_is _ _ _ true _ h1).mono ?_
      rintro e w1 ⟨rfl, rfl⟩
      go_wp2_with fail
      refine (l1in_is _ _ _ true _ h2).mono ?_
      rintro e w1 ⟨rfl, rfl⟩
      go_wp2
      go_meet
      exact ⟨rfl, HV⟩
  case rest =>
  obtain ⟨rfl, HVc⟩ := hcut
  clear HV HZ h1 h2 hn hm he hbad
  have HSc := Lib.hid ((HS.out.below HVc.out.1).mono (Nat.le_trans (Nat.le_succ _) HVc.out.more1))
  obtain ⟨k0, k1, k2, k3, k4⟩ := HVc.out.c50
  by_cases e1 : k = 1
  · subst e1
    rw [shape_1] at HX
    by_cases hl1 : ps.length = 1
    · obtain ⟨⟨x, y⟩, rfl⟩ : ∃ p, ps = [p] := by
        match ps, hl1 with
        | [p], _ => exact ⟨p, rfl⟩
      obtain ⟨b, off, rfl, -, -⟩ := HSc.out 0 _ rfl
      obtain ⟨q0, q1⟩ := cellsPoint0 HSc.out rfl
      clear hl1
      go_wp2_with fail
      refine (sIsPoint_is x y z _ HX.out).mono ?_
      rintro e w1 ⟨rfl, hb1⟩
      have HV1 := Lib.hid (HVc.out.next hb1)
      clear hb1
      go_wp2
      go_ret
      exact ⟨rfl, HV1.out.1⟩
    · have hl1' : ¬ (ps.length : Int) = 1 := by omega
      obtain rfl : false = z := (one_no hl1).symm.trans HX.out
      clear hl1
      go_wp2
      go_ret
      exact ⟨rfl, HVc.out.1⟩
  by_cases e2 : k = 2
  · subst e2
    rw [shape_2] at HX
    go_wp2_with fail
    refine (sIsSimple_is A c ps _ HSc.out (by omega) z HX.out).mono ?_
    rintro e w1 ⟨rfl, hb1⟩
    have HV1 := Lib.hid (HVc.out.next hb1)
    clear hb1
    go_wp2
    go_ret
    exact ⟨rfl, HV1.out.1⟩
  by_cases e3 : k = 3
  · subst e3
    rw [shape_3] at HX
    go_wp2_with fail
    refine (sIsRing_is A c ps _ HSc.out hl z HX.out).mono ?_
    rintro e w1 ⟨rfl, hb1⟩
    have HV1 := Lib.hid (HVc.out.next hb1)
    clear hb1
    go_wp2
    go_ret
    exact ⟨rfl, HV1.out.1⟩
  obtain rfl : false = z := (shape_0 ps e1 e2 e3).symm.trans HX.out
  go_wp2
  go_ret
  exact ⟨rfl, HVc.out.1⟩
end Go.Proofs.YtbnjaaegbmhopaaDoor
end
section
/- Lines: IsSimple of package impl, over meetInTurn. -/
namespace Go.Proofs.YtbnjaaegbmhopaaDoor
open Go.ChangeShapes Go.WideShapes Go.ChangeAt Go.RowKit
set_option linter.unusedVariables false

theorem smp_turn (l : List (Int × Int)) : smpV l = (turnV false (sgV l) && isLn l) := by
  unfold smpV turnV
  congr 1
  refine decide_eq_decide.2 ⟨fun h k hk i hi => ?_, fun h k hk i hi => ?_⟩
  · have := h k hk i hi
    obtain ⟨u, hu⟩ : ∃ u, (sgV l)[i]? = some u := ⟨_, List.getElem?_eq_getElem (by omega)⟩
    obtain ⟨v, hv⟩ : ∃ v, (sgV l)[k]? = some v := ⟨_, List.getElem?_eq_getElem hk⟩
    rw [mtOk_at hu hv] at this
    rw [prOk_at hu hv, show wantC false (sgV l).length i k = if i + 1 = k then 1 else 0 by unfold wantC; simp]
    exact this
  · have := h k hk i hi
    obtain ⟨u, hu⟩ : ∃ u, (sgV l)[i]? = some u := ⟨_, List.getElem?_eq_getElem (by omega)⟩
    obtain ⟨v, hv⟩ : ∃ v, (sgV l)[k]? = some v := ⟨_, List.getElem?_eq_getElem hk⟩
    rw [prOk_at hu hv, show wantC false (sgV l).length i k = if i + 1 = k then 1 else 0 by unfold wantC; simp] at this
    rw [mtOk_at hu hv]
    exact this
set_option maxRecDepth 100000 in
set_option maxHeartbeats 4000000 in
theorem isSimple_is (A : Option Addr) (c : Nat) (l : List (Int × Int)) (w : World) (hs : SeesE 2 encPoint w w.heap.size A l) (hl : l.length ≤ 1099511627776) (z : Bool) (hz : smpV l = z) :
    Calls Tryd.prog 153 #[.slice A l.length c] w fun e w' => e = .returned (.bool z) ∧ Below w.heap.size w w' := by
  have HS := Lib.hid hs; clear hs
  have HZ : Hid ((turnV false (sgV l) && isLn l) = z) := Lib.hid (by rw [← smp_turn]; exact hz)
  clear hz
  go_enter Tryd.func153, Tryd.ntmps153
  cases hi : isLn l
  · obtain rfl : z = false := by rw [← HZ.out, hi, Bool.and_false]
    have h0 : Hid (sgV l = []) := Lib.hid (sgV_no hi)
    go_wp2_with fail
    refine (segmentsOf_any A c l _ HS.out hl).mono ?_
    rintro e w1 ⟨A1, c1, L, hL, rfl, ho1, hb1⟩
    have hn : L.length = 0 := by rw [hL.out, h0.out]; rfl
    have hn2 : ((L.length : Nat) : Int) = 0 := by omega
    have HB1 := Lib.hid hb1
    rw [hn]
    clear ho1 hb1 hn hn2
    go_wp2
    go_ret
    exact ⟨rfl, HB1.out⟩
  · have hz' : turnV false (sgV l) = z := by rw [← HZ.out, hi, Bool.and_true]
    have HT := Lib.hid hz'
    clear hz'
    go_wp2_with fail
    refine (segmentsOf_any A c l _ HS.out hl).mono ?_
    rintro e w1 ⟨A1, c1, L, hL, rfl, ho1, hb1⟩
    have hn : (0 : Int) < (L.length : Int) := by have := sgV_pos hi; rw [← hL.out] at this; omega
    have h9 : L.length ≤ 1000 := by rw [hL.out]; have := sgV_len l; omega
    have HB1 := Lib.hid hb1; have HO1 := Lib.hid ho1
    have HT2 : Hid (turnV false L = z) := Lib.hid (by rw [hL.out]; exact HT.out)
    clear ho1 hb1
    go_wp2_with (go_at_call 54; refine (meetInTurn_is A1 c1 false L _ (HO1.out.sees elSegment) h9 _ HT2.out).mono ?_; rintro e w2 ⟨rfl, hb2⟩)
    go_ret
    exact ⟨by cases z <;> rfl, HB1.out.trans (hb2.mono HB1.out.size)⟩
end Go.Proofs.YtbnjaaegbmhopaaDoor
end
section
/- Features: IsFeature of package impl. -/
namespace Go.Proofs.YtbnjaaegbmhopaaDoor
open Go.ChangeShapes Go.WideShapes Go.ChangeAt Go.RowKit
set_option linter.unusedVariables false

set_option maxRecDepth 100000 in
theorem pointValid_is (A : Option Addr) (c : Nat) (ps : List (Int × Int)) (z : Bool) (w : World) (hs : SeesE 2 encPoint w w.heap.size A ps) (hz : onePt ps = z) :
    Calls Tryd.prog 150 #[.slice A ps.length c] w fun e w' => e = .returned (.bool z) ∧ Below w.heap.size w w' := by
  have HS := Lib.hid hs; have HZ := Lib.hid hz
  clear hs hz
  go_enter Tryd.func150, Tryd.ntmps150
  by_cases hl1 : ps.length = 1
  · obtain ⟨⟨x, y⟩, rfl⟩ : ∃ p, ps = [p] := by
      match ps, hl1 with
      | [p], _ => exact ⟨p, rfl⟩
    obtain ⟨b, off, rfl, -, -⟩ := HS.out 0 _ rfl
    obtain ⟨q0, q1⟩ := cellsPoint0 HS.out rfl
    clear hl1
    go_wp2_with fail
    refine (isPoint_is x y z _ HZ.out).mono ?_
    rintro e w1 ⟨rfl, hb1⟩
    have HB := Lib.hid hb1
    clear hb1
    go_wp2
    go_ret
    exact ⟨rfl, HB.out⟩
  · have hl1' : ¬ (ps.length : Int) = 1 := by omega
    obtain rfl : false = z := (one_no hl1).symm.trans HZ.out
    clear hl1
    go_wp2
    go_ret
    exact ⟨rfl, Below.refl _ _⟩
theorem lineValid_is (A : Option Addr) (c : Nat) (ps : List (Int × Int)) (z : Bool) (w : World) (hs : SeesE 2 encPoint w w.heap.size A ps) (hl : ps.length ≤ 274877906944) (hz : smpV ps = z) :
    Calls Tryd.prog 152 #[.slice A ps.length c] w fun e w' => e = .returned (.bool z) ∧ Below w.heap.size w w' := by
  go_enter Tryd.func152, Tryd.ntmps152
  go_wp2_with fail
  refine (isSimple_is A c ps w hs (by omega) z hz).mono ?_
  rintro e w1 ⟨rfl, hb1⟩
  go_wp2
  go_ret
  exact ⟨rfl, hb1⟩
theorem areaValid_is (a0 : Addr) (A : Option Addr) (c : Nat) (ps : List (Int × Int)) (z : Bool) (w : World) (hE : ErrAt a0 w) (hs : SeesE 2 encPoint w w.heap.size A ps) (hl : ps.length ≤ 274877906944) (hlc : ps.length ≤ c) (hc : (c : Int) ≤ 9223372036854775807) (hz : isRg ps = z) :
    Calls Tryd.prog 154 #[.slice A ps.length c] w fun e w' => e = .returned (.bool z) ∧ Below w.heap.size w w' := by
  go_enter Tryd.func154, Tryd.ntmps154
  go_wp2_with fail
  refine (isRing_is a0 A c ps w hE hs hl hlc hc z hz).mono ?_
  rintro e w1 ⟨rfl, hb1⟩
  go_wp2
  go_ret
  exact ⟨rfl, hb1⟩
theorem noValid_is (z : Bool) (w : World) (hz : false = z) :
    Calls Tryd.prog 155 #[.agg #[]] w fun e w' => e = .returned (.bool z) ∧ Below w.heap.size w w' := by
  subst hz
  go_enter Tryd.func155, Tryd.ntmps155
  go_wp2
  go_ret
  first | exact ⟨rfl, Below.refl _ _⟩ | exact ⟨rfl, (Below.refl _ _).alloc (Nat.le_refl _) _⟩
theorem variantOf_point (a r : Int) (s : ByteArray) (A : Option Addr) (n c : Nat) (w : World) :
    Calls Tryd.prog 93 #[FtV a 1 r s A n c] w fun e w' => e = .returned (.iface 145 (.slice A n c)) ∧ Below w.heap.size w w' := by
  go_enter Tryd.func93, Tryd.ntmps93
  go_wp2
  go_ret
  exact ⟨rfl, (Below.refl _ _).alloc (Nat.le_refl _) _⟩
theorem variantOf_line (a r : Int) (s : ByteArray) (A : Option Addr) (n c : Nat) (w : World) :
    Calls Tryd.prog 93 #[FtV a 2 r s A n c] w fun e w' => e = .returned (.iface 146 (.slice A n c)) ∧ Below w.heap.size w w' := by
  go_enter Tryd.func93, Tryd.ntmps93
  go_wp2
  go_ret
  exact ⟨rfl, (Below.refl _ _).alloc (Nat.le_refl _) _⟩
theorem variantOf_area (a r : Int) (s : ByteArray) (A : Option Addr) (n c : Nat) (w : World) :
    Calls Tryd.prog 93 #[FtV a 3 r s A n c] w fun e w' => e = .returned (.iface 147 (.slice A n c)) ∧ Below w.heap.size w w' := by
  go_enter Tryd.func93, Tryd.ntmps93
  go_wp2
  go_ret
  exact ⟨rfl, (Below.refl _ _).alloc (Nat.le_refl _) _⟩
theorem variantOf_no (a k r : Int) (s : ByteArray) (A : Option Addr) (n c : Nat) (w : World) (e1 : ¬ k = 1) (e2 : ¬ k = 2) (e3 : ¬ k = 3) :
    Calls Tryd.prog 93 #[FtV a k r s A n c] w fun e w' => e = .returned (.iface 148 (.agg #[])) ∧ Below w.heap.size w w' := by
  go_enter Tryd.func93, Tryd.ntmps93
  go_wp2
  go_ret
  exact ⟨rfl, (Below.refl _ _).alloc (Nat.le_refl _) _⟩
set_option maxRecDepth 100000 in
set_option maxHeartbeats 8000000 in
theorem isFeature_is (a0 : Addr) (a k r : Int) (s : ByteArray) (A : Option Addr) (c : Nat) (ps : List (Int × Int)) (z : Bool) (w : World) (hE : ErrAt a0 w) (hs : SeesE 2 encPoint w w.heap.size A ps) (hl : ps.length ≤ 274877906944) (hlc : ps.length ≤ c) (hc : (c : Int) ≤ 9223372036854775807) (hm : s.size ≤ maxLen) (hz : featV (a, k, r, s, ps) = z) :
    Calls Tryd.prog 69 #[FtV a k r s A ps.length c] w fun e w' => e = .returned (.bool z) ∧ Below w.heap.size w w' := by
  have hmpoint : ∀ (v : Value) (w : World), (Go.method 299 145 v "loop.example/g03005/impl.isValid").run Tryd.prog w = .ok (150, v) w := fun _ _ => by kernel_rfl
  have hmline : ∀ (v : Value) (w : World), (Go.method 299 146 v "loop.example/g03005/impl.isValid").run Tryd.prog w = .ok (152, v) w := fun _ _ => by kernel_rfl
  have hmarea : ∀ (v : Value) (w : World), (Go.method 299 147 v "loop.example/g03005/impl.isValid").run Tryd.prog w = .ok (154, v) w := fun _ _ => by kernel_rfl
  have hmno : ∀ (v : Value) (w : World), (Go.method 299 148 v "loop.example/g03005/impl.isValid").run Tryd.prog w = .ok (155, v) w := fun _ _ => by kernel_rfl
  have HV := Lib.hid (Vars.of1 w (FtC a k r s A ps.length c) 46)
  have HS := Lib.hid hs; have HE := Lib.hid hE; have HZ := Lib.hid hz; have HM := Lib.hid hm
  clear hs hE hz hm
  go_enter Tryd.func69, Tryd.ntmps69
  cases h1 : inB a 1 99
  · obtain rfl : false = z := (feat_1 h1).symm.trans HZ.out
    go_wp2_with fail
    refine (in_is _ _ _ false _ h1).mono ?_
    rintro e9 w9 ⟨rfl, rfl⟩
    go_wp2
    go_ret
    exact ⟨rfl, HV.out.1⟩
  cases h2 : inB r 0 9
  · obtain rfl : false = z := (feat_2 h2).symm.trans HZ.out
    go_wp2_with fail
    refine (in_is _ _ _ true _ h1).mono ?_
    rintro e9 w9 ⟨rfl, rfl⟩
    go_wp2_with fail
    refine (in_is _ _ _ false _ h2).mono ?_
    rintro e9 w9 ⟨rfl, rfl⟩
    go_wp2
    go_ret
    exact ⟨rfl, HV.out.1⟩
  obtain ⟨n, hn⟩ : ∃ n, nameV s = n := ⟨_, rfl⟩
  obtain ⟨m, hm⟩ : ∃ m, decide (s.size = 0) = m := ⟨_, rfl⟩
  have he := empty_is s hm
  by_cases hbad : m = false ∧ n = false
  · obtain ⟨rfl, rfl⟩ := hbad
    obtain rfl : false = z := (feat_3 (of_decide_eq_false hm) hn).symm.trans HZ.out
    clear hm
    go_wp2_with fail
    refine (in_is _ _ _ true _ h1).mono ?_
    rintro e9 w9 ⟨rfl, rfl⟩
    go_wp2_with fail
    refine (in_is _ _ _ true _ h2).mono ?_
    rintro e9 w9 ⟨rfl, rfl⟩
    go_wp2_with fail
    refine (isName_is s false _ HM.out hn).mono ?_
    rintro e9 w9 ⟨rfl, hb9⟩
    have HV := Lib.hid (HV.out.next hb9)
    clear hb9
    obtain ⟨k0, k1, k2, k3, k4⟩ := HV.out.c50
    go_wp2
    go_ret
    exact ⟨rfl, HV.out.1⟩
  have HX : Hid (shapeV k ps = z) := Lib.hid (by
    rw [← feat_4 (s := s) h1 h2 ?_]; exact HZ.out
    cases m
    · cases n
      · exact absurd ⟨rfl, rfl⟩ hbad
      · exact .inr hn
    · exact .inl (of_decide_eq_true hm))
  clear HZ
  cases m
  · cases n
    · exact absurd ⟨rfl, rfl⟩ hbad
    clear hm hbad
    by_cases e1 : k = 1
    · subst e1
      rw [shape_1] at HX
      go_wp2_with fail
      refine (in_is _ _ _ true _ h1).mono ?_
      rintro e9 w9 ⟨rfl, rfl⟩
      go_wp2_with fail
      refine (in_is _ _ _ true _ h2).mono ?_
      rintro e9 w9 ⟨rfl, rfl⟩
      go_wp2_with fail
      refine (isName_is s true _ HM.out hn).mono ?_
      rintro e9 w9 ⟨rfl, hb9⟩
      have HV := Lib.hid (HV.out.next hb9)
      clear hb9
      obtain ⟨k0, k1, k2, k3, k4⟩ := HV.out.c50
      go_wp2_with fail
      refine (variantOf_point a r s A ps.length c _).mono ?_
      rintro e9 w9 ⟨rfl, hb9⟩
      have HV := Lib.hid (HV.out.next hb9)
      clear hb9
      obtain ⟨k0, k1, k2, k3, k4⟩ := HV.out.c50
      go_wp2_with fail
      refine (pointValid_is A c ps z _ ((HS.out.below HV.out.1).mono HV.out.1.size) HX.out).mono ?_
      rintro e9 w9 ⟨rfl, hb9⟩
      have HV := Lib.hid (HV.out.next hb9)
      clear hb9
      obtain ⟨k0, k1, k2, k3, k4⟩ := HV.out.c50
      go_wp2
      go_ret
      exact ⟨rfl, HV.out.1⟩
    by_cases e2 : k = 2
    · subst e2
      rw [shape_2] at HX
      go_wp2_with fail
      refine (in_is _ _ _ true _ h1).mono ?_
      rintro e9 w9 ⟨rfl, rfl⟩
      go_wp2_with fail
      refine (in_is _ _ _ true _ h2).mono ?_
      rintro e9 w9 ⟨rfl, rfl⟩
      go_wp2_with fail
      refine (isName_is s true _ HM.out hn).mono ?_
      rintro e9 w9 ⟨rfl, hb9⟩
      have HV := Lib.hid (HV.out.next hb9)
      clear hb9
      obtain ⟨k0, k1, k2, k3, k4⟩ := HV.out.c50
      go_wp2_with fail
      refine (variantOf_line a r s A ps.length c _).mono ?_
      rintro e9 w9 ⟨rfl, hb9⟩
      have HV := Lib.hid (HV.out.next hb9)
      clear hb9
      obtain ⟨k0, k1, k2, k3, k4⟩ := HV.out.c50
      go_wp2_with fail
      refine (lineValid_is A c ps z _ ((HS.out.below HV.out.1).mono HV.out.1.size) hl HX.out).mono ?_
      rintro e9 w9 ⟨rfl, hb9⟩
      have HV := Lib.hid (HV.out.next hb9)
      clear hb9
      obtain ⟨k0, k1, k2, k3, k4⟩ := HV.out.c50
      go_wp2
      go_ret
      exact ⟨rfl, HV.out.1⟩
    by_cases e3 : k = 3
    · subst e3
      rw [shape_3] at HX
      go_wp2_with fail
      refine (in_is _ _ _ true _ h1).mono ?_
      rintro e9 w9 ⟨rfl, rfl⟩
      go_wp2_with fail
      refine (in_is _ _ _ true _ h2).mono ?_
      rintro e9 w9 ⟨rfl, rfl⟩
      go_wp2_with fail
      refine (isName_is s true _ HM.out hn).mono ?_
      rintro e9 w9 ⟨rfl, hb9⟩
      have HV := Lib.hid (HV.out.next hb9)
      clear hb9
      obtain ⟨k0, k1, k2, k3, k4⟩ := HV.out.c50
      go_wp2_with fail
      refine (variantOf_area a r s A ps.length c _).mono ?_
      rintro e9 w9 ⟨rfl, hb9⟩
      have HV := Lib.hid (HV.out.next hb9)
      clear hb9
      obtain ⟨k0, k1, k2, k3, k4⟩ := HV.out.c50
      go_wp2_with fail
      refine (areaValid_is a0 A c ps z _ (HE.out.all HV.out.1) ((HS.out.below HV.out.1).mono HV.out.1.size) hl hlc hc HX.out).mono ?_
      rintro e9 w9 ⟨rfl, hb9⟩
      have HV := Lib.hid (HV.out.next hb9)
      clear hb9
      obtain ⟨k0, k1, k2, k3, k4⟩ := HV.out.c50
      go_wp2
      go_ret
      exact ⟨rfl, HV.out.1⟩
    rw [shape_0 ps e1 e2 e3] at HX
    go_wp2_with fail
    refine (in_is _ _ _ true _ h1).mono ?_
    rintro e9 w9 ⟨rfl, rfl⟩
    go_wp2_with fail
    refine (in_is _ _ _ true _ h2).mono ?_
    rintro e9 w9 ⟨rfl, rfl⟩
    go_wp2_with fail
    refine (isName_is s true _ HM.out hn).mono ?_
    rintro e9 w9 ⟨rfl, hb9⟩
    have HV := Lib.hid (HV.out.next hb9)
    clear hb9
    obtain ⟨k0, k1, k2, k3, k4⟩ := HV.out.c50
    go_wp2_with fail
    refine (variantOf_no a k r s A ps.length c _ e1 e2 e3).mono ?_
    rintro e9 w9 ⟨rfl, hb9⟩
    have HV := Lib.hid (HV.out.next hb9)
    clear hb9
    obtain ⟨k0, k1, k2, k3, k4⟩ := HV.out.c50
    go_wp2_with fail
    refine (noValid_is z _ HX.out).mono ?_
    rintro e9 w9 ⟨rfl, hb9⟩
    have HV := Lib.hid (HV.out.next hb9)
    clear hb9
    obtain ⟨k0, k1, k2, k3, k4⟩ := HV.out.c50
    go_wp2
    go_ret
    exact ⟨rfl, HV.out.1⟩
  · clear hm hbad
    by_cases e1 : k = 1
    · subst e1
      rw [shape_1] at HX
      go_wp2_with fail
      refine (in_is _ _ _ true _ h1).mono ?_
      rintro e9 w9 ⟨rfl, rfl⟩
      go_wp2_with fail
      refine (in_is _ _ _ true _ h2).mono ?_
      rintro e9 w9 ⟨rfl, rfl⟩
      go_wp2_with fail
      refine (variantOf_point a r s A ps.length c _).mono ?_
      rintro e9 w9 ⟨rfl, hb9⟩
      have HV := Lib.hid (HV.out.next hb9)
      clear hb9
      obtain ⟨k0, k1, k2, k3, k4⟩ := HV.out.c50
      go_wp2_with fail
      refine (pointValid_is A c ps z _ ((HS.out.below HV.out.1).mono HV.out.1.size) HX.out).mono ?_
      rintro e9 w9 ⟨rfl, hb9⟩
      have HV := Lib.hid (HV.out.next hb9)
      clear hb9
      obtain ⟨k0, k1, k2, k3, k4⟩ := HV.out.c50
      go_wp2
      go_ret
      exact ⟨rfl, HV.out.1⟩
    by_cases e2 : k = 2
    · subst e2
      rw [shape_2] at HX
      go_wp2_with fail
      refine (in_is _ _ _ true _ h1).mono ?_
      rintro e9 w9 ⟨rfl, rfl⟩
      go_wp2_with fail
      refine (in_is _ _ _ true _ h2).mono ?_
      rintro e9 w9 ⟨rfl, rfl⟩
      go_wp2_with fail
      refine (variantOf_line a r s A ps.length c _).mono ?_
      rintro e9 w9 ⟨rfl, hb9⟩
      have HV := Lib.hid (HV.out.next hb9)
      clear hb9
      obtain ⟨k0, k1, k2, k3, k4⟩ := HV.out.c50
      go_wp2_with fail
      refine (lineValid_is A c ps z _ ((HS.out.below HV.out.1).mono HV.out.1.size) hl HX.out).mono ?_
      rintro e9 w9 ⟨rfl, hb9⟩
      have HV := Lib.hid (HV.out.next hb9)
      clear hb9
      obtain ⟨k0, k1, k2, k3, k4⟩ := HV.out.c50
      go_wp2
      go_ret
      exact ⟨rfl, HV.out.1⟩
    by_cases e3 : k = 3
    · subst e3
      rw [shape_3] at HX
      go_wp2_with fail
      refine (in_is _ _ _ true _ h1).mono ?_
      rintro e9 w9 ⟨rfl, rfl⟩
      go_wp2_with fail
      refine (in_is _ _ _ true _ h2).mono ?_
      rintro e9 w9 ⟨rfl, rfl⟩
      go_wp2_with fail
      refine (variantOf_area a r s A ps.length c _).mono ?_
      rintro e9 w9 ⟨rfl, hb9⟩
      have HV := Lib.hid (HV.out.next hb9)
      clear hb9
      obtain ⟨k0, k1, k2, k3, k4⟩ := HV.out.c50
      go_wp2_with fail
      refine (areaValid_is a0 A c ps z _ (HE.out.all HV.out.1) ((HS.out.below HV.out.1).mono HV.out.1.size) hl hlc hc HX.out).mono ?_
      rintro e9 w9 ⟨rfl, hb9⟩
      have HV := Lib.hid (HV.out.next hb9)
      clear hb9
      obtain ⟨k0, k1, k2, k3, k4⟩ := HV.out.c50
      go_wp2
      go_ret
      exact ⟨rfl, HV.out.1⟩
    rw [shape_0 ps e1 e2 e3] at HX
    go_wp2_with fail
    refine (in_is _ _ _ true _ h1).mono ?_
    rintro e9 w9 ⟨rfl, rfl⟩
    go_wp2_with fail
    refine (in_is _ _ _ true _ h2).mono ?_
    rintro e9 w9 ⟨rfl, rfl⟩
    go_wp2_with fail
    refine (variantOf_no a k r s A ps.length c _ e1 e2 e3).mono ?_
    rintro e9 w9 ⟨rfl, hb9⟩
    have HV := Lib.hid (HV.out.next hb9)
    clear hb9
    obtain ⟨k0, k1, k2, k3, k4⟩ := HV.out.c50
    go_wp2_with fail
    refine (noValid_is z _ HX.out).mono ?_
    rintro e9 w9 ⟨rfl, hb9⟩
    have HV := Lib.hid (HV.out.next hb9)
    clear hb9
    obtain ⟨k0, k1, k2, k3, k4⟩ := HV.out.c50
    go_wp2
    go_ret
    exact ⟨rfl, HV.out.1⟩
end Go.Proofs.YtbnjaaegbmhopaaDoor
end
section
/- PartsOf and FeaturesMeet of package impl. -/
namespace Go.Proofs.YtbnjaaegbmhopaaDoor
open Go.ChangeShapes Go.WideShapes Go.ChangeAt Go.RowKit
set_option linter.unusedVariables false

theorem maxW_is (a b z : Int) (w : World) (hz : extV true a b = z) :
    Calls Tryd.prog 67 #[.int .i64 a, .int .i64 b] w fun e w' => e = .returned (.int .i64 z) ∧ Below w.heap.size w w' := by
  subst hz
  go_enter Tryd.func67, Tryd.ntmps67
  go_wp2_with (go_at_call 86; refine (ext_any _ _ b _ _ (by simp [go_sem])).mono ?_; rintro e w' ⟨rfl, rfl⟩)
  go_ret
  exact ⟨rfl, by repeat (first | exact Below.refl _ _ | apply Below.drew | (refine Below.alloc ?_ (Nat.le_refl _) _))⟩
set_option maxRecDepth 100000 in
set_option maxHeartbeats 1000000 in
theorem partsOf_any (a0 : Addr) (a k r : Int) (s : ByteArray) (A : Option Addr) (c : Nat) (ps : List (Int × Int)) (w : World) (hE : ErrAt a0 w) (hs : SeesE 2 encPoint w w.heap.size A ps) (hl : ps.length ≤ 274877906944) (hlc : ps.length ≤ c) (hc : (c : Int) ≤ 9223372036854775807) (hm : s.size ≤ maxLen) :
    Calls Tryd.prog 46 #[FtV a k r s A ps.length c] w (GivesE 4 encSegment 53 (partsV (a, k, r, s, ps)) w) := by
  have HV := Lib.hid (Vars.of1 w (FtC a k r s A ps.length c) 46)
  have HS := Lib.hid ((hs.below HV.out.1).mono HV.out.1.size)
  have HE := Lib.hid (hE.all HV.out.1)
  clear hs hE
  go_enter Tryd.func46, Tryd.ntmps46
  cases hq : featV (a, k, r, s, ps)
  · have HP := Lib.hid (parts_no hq)
    go_wp2_with fail
    refine (isFeature_is a0 a k r s A c ps _ _ HE.out HS.out hl hlc hc hm hq).mono ?_
    rintro e w1 ⟨rfl, hb1⟩
    have HV := Lib.hid (HV.out.next hb1)
    clear hb1
    go_wp2
    go_ret
    exact ⟨_, _, [], Lib.hid HP.out.symm, rfl, (OwnE.lit w1 w1.heap.size 53 (Nat.le_refl _)).mono HV.out.1.size, HV.out.1.alloc HV.out.1.size _⟩
  · by_cases e2 : k = 2
    · subst e2
      have HP := Lib.hid (parts_2 hq)
      go_wp2_with fail
      refine (isFeature_is a0 a 2 r s A c ps _ _ HE.out HS.out hl hlc hc hm hq).mono ?_
      rintro e w1 ⟨rfl, hb1⟩
      have HS1 := Lib.hid (HS.out.belowAll hb1)
      have HV := Lib.hid (HV.out.next hb1)
      clear hb1
      obtain ⟨k0, k1, k2, k3, k4⟩ := HV.out.c50
      go_wp2_with fail
      refine (segmentsOf_any A c ps _ HS1.out (by omega)).mono ?_
      rintro e w2 ⟨A2, c2, L, hL, rfl, ho2, hb2⟩
      have HO := Lib.hid (ho2.mono HV.out.1.size)
      have HV := Lib.hid (HV.out.next hb2)
      clear ho2 hb2
      go_wp2
      go_ret
      exact ⟨A2, c2, L, Lib.hid (by rw [hL.out, HP.out]), rfl, HO.out, HV.out.1⟩
    by_cases e3 : k = 3
    · subst e3
      have HP := Lib.hid (parts_3 hq)
      go_wp2_with fail
      refine (isFeature_is a0 a 3 r s A c ps _ _ HE.out HS.out hl hlc hc hm hq).mono ?_
      rintro e w1 ⟨rfl, hb1⟩
      have HS1 := Lib.hid (HS.out.belowAll hb1)
      have HE1 := Lib.hid (HE.out.all hb1)
      have HV := Lib.hid (HV.out.next hb1)
      clear hb1
      obtain ⟨k0, k1, k2, k3, k4⟩ := HV.out.c50
      go_wp2_with fail
      refine (ringSegments_any a0 A c ps _ HE1.out HS1.out hl hlc hc).mono ?_
      rintro e w2 ⟨A2, c2, L, hL, rfl, ho2, hb2⟩
      have HO := Lib.hid (ho2.mono HV.out.1.size)
      have HV := Lib.hid (HV.out.next hb2)
      clear ho2 hb2
      go_wp2
      go_ret
      exact ⟨A2, c2, L, Lib.hid (by rw [hL.out, HP.out]), rfl, HO.out, HV.out.1⟩
    have HP := Lib.hid (parts_0 (a := a) (r := r) (s := s) (ps := ps) e2 e3)
    go_wp2_with fail
    refine (isFeature_is a0 a k r s A c ps _ _ HE.out HS.out hl hlc hc hm hq).mono ?_
    rintro e w1 ⟨rfl, hb1⟩
    have HV := Lib.hid (HV.out.next hb1)
    clear hb1
    obtain ⟨k0, k1, k2, k3, k4⟩ := HV.out.c50
    go_wp2
    go_ret
    exact ⟨_, _, [], Lib.hid HP.out.symm, rfl, (OwnE.lit w1 w1.heap.size 53 (Nat.le_refl _)).mono HV.out.1.size, HV.out.1.alloc HV.out.1.size _⟩
theorem mxS_st {n : Int} {s : Sg} {T : List Sg} {j : Nat} {x : Sg} (hx : T[j]? = some x) : extV true (mxS n s (T.take j)) (howS s x) = mxS n s (T.take (j + 1)) := by
  rw [List.take_add_one, hx]; exact (mxS_snoc _ _ _ _).symm
theorem mtV_st {S T : List Sg} {i : Nat} {u : Sg} (hu : S[i]? = some u) : mxS (mtV (S.take i) T) u T = mtV (S.take (i + 1)) T := by
  rw [List.take_add_one, hu]; exact (mtV_snoc _ _ _).symm
set_option maxRecDepth 100000 in
set_option maxHeartbeats 4000000 in
theorem greatest_is (A A' : Option Addr) (c c' : Nat) (L L' : List Sg) (z : Int) (w : World) (hs : SeesE 4 encSegment w w.heap.size A L) (hs' : SeesE 4 encSegment w w.heap.size A' L') (hl : L.length ≤ 1000) (hl' : L'.length ≤ 1000) (hz : mtV L L' = z) :
    Calls Tryd.prog 45 #[.slice A L.length c, .slice A' L'.length c'] w fun e w' => e = .returned (.int .i64 z) ∧ Below w.heap.size w w' := by
  have HS := Lib.hid hs; have HS' := Lib.hid hs'; have HZ := Lib.hid hz
  clear hs hs' hz
  go_enter Tryd.func45, Tryd.ntmps45
  go_wp2
  go_loopw [5, 12] (fun n i wr => ∃ j : Nat, j ≤ L.length ∧ n = .int .i64 (mtV (L.take j) L') ∧ i = .int .i64 j ∧ Hid (Below w.heap.size w wr)) (fun _ i _ => L.length - (intOf i).toNat)
  case atStart => exact ⟨0, Nat.zero_le _, rfl, rfl, Lib.hid (Below.refl _ _)⟩
  case round =>
    obtain ⟨i, hi, rfl, rfl, HB⟩ := hrel
    by_cases hlt : i < L.length
    · have hli : (i : Int) < (L.length : Int) := by omega
      obtain ⟨b, off, u, rfl, hbl, hu, -⟩ := (HS.out.below HB.out).lt hlt
      obtain ⟨k0, k1, k2, k3⟩ := cells4 (HS.out.below HB.out) hu
      obtain ⟨N, hN⟩ : ∃ N, mtV (L.take i) L' = N := ⟨_, rfl⟩
      have HT : Hid (mxS N u L' = mtV (L.take (i + 1)) L') := Lib.hid (by rw [← hN]; exact mtV_st hu)
      rw [hN]
      have HB1 := Lib.hid (HB.out.alloc HB.out.size (.cells (sC u) 53))
      have HU := Lib.hid (OneV.new (m := 0) wr (Nat.zero_le _) (sC u) 53)
      clear hu hN
      go_wp2
      go_loopw [5, 18] (fun n k wx => ∃ j : Nat, j ≤ L'.length ∧ n = .int .i64 (mxS N u (L'.take j)) ∧ k = .int .i64 j ∧ Hid (OneV 0 wx wr.heap.size (sC u)) ∧ Hid (Below w.heap.size w wx)) (fun _ k _ => L'.length - (intOf k).toNat)
      case atStart => exact ⟨0, Nat.zero_le _, rfl, rfl, HU, HB1⟩
      case round =>
        obtain ⟨j, hj, rfl, rfl, HU2, HB2⟩ := hrel
        by_cases hlj : j < L'.length
        · have hlj' : (j : Int) < (L'.length : Int) := by omega
          obtain ⟨b', off', v, rfl, hbl', hv, -⟩ := (HS'.out.below HB2.out).lt hlj
          obtain ⟨k4, k5, k6, k7⟩ := cells4 (HS'.out.below HB2.out) hv
          obtain ⟨M, hM⟩ : ∃ M, mxS N u (L'.take j) = M := ⟨_, rfl⟩
          obtain ⟨m, hm⟩ : ∃ m, howS u v = m := ⟨_, rfl⟩
          have HX : Hid (extV true M m = mxS N u (L'.take (j + 1))) := Lib.hid (by rw [← hM, ← hm]; exact mxS_st hv)
          rw [hM]
          obtain ⟨x, hx⟩ : ∃ x, extV true M m = x := ⟨_, rfl⟩
          rw [hx] at HX
          have HU3 := Lib.hid (HU2.out.al (.cells (sC v) 53))
          have HB3 := Lib.hid (HB2.out.alloc HB2.out.size (.cells (sC v) 53))
          obtain ⟨q0, q1, q2, q3⟩ := HU3.out.c4
          clear hv hM
          go_wp2_with (first
            | (go_at_call 68; refine (howS_is u v _ _ hm).mono ?_; rintro e w9 ⟨rfl, hb9⟩; have HB9 := Lib.hid (HB3.out.trans (hb9.mono HB3.out.size)); have HU9 := Lib.hid (HU3.out.next hb9))
            | (go_at_call 67; refine (maxW_is M m x _ hx).mono ?_; rintro e w8 ⟨rfl, hb8⟩; have HB8 := Lib.hid (HB9.out.trans (hb8.mono HB9.out.size)); have HU8 := Lib.hid (HU9.out.next hb8)) | fail)
          go_roundw
          case rel => exact ⟨j + 1, by omega, by rw [← HX.out], by go_num, HU8, HB8⟩
          case measure => simp [intOf]; omega
        · obtain rfl : j = L'.length := by omega
          rw [List.take_length]
          go_wp2
          go_roundw
          case rel => exact ⟨i + 1, by omega, by rw [← HT.out], by go_num, HB2⟩
          case measure => simp [intOf]; omega
    · obtain rfl : i = L.length := by omega
      rw [List.take_length]
      go_wp2
      go_ret
      exact ⟨by rw [← HZ.out]; rfl, HB.out⟩
set_option maxRecDepth 100000 in
set_option maxHeartbeats 4000000 in
theorem featuresMeet_is (a0 : Addr) (a k r : Int) (s : ByteArray) (A : Option Addr) (c : Nat) (ps : List (Int × Int)) (a' k' r' : Int) (s' : ByteArray) (A' : Option Addr) (c' : Nat) (ps' : List (Int × Int)) (z : Int) (w : World) (hE : ErrAt a0 w)
    (hs : SeesE 2 encPoint w w.heap.size A ps) (hl : ps.length ≤ 274877906944) (hlc : ps.length ≤ c) (hc : (c : Int) ≤ 9223372036854775807) (hm : s.size ≤ maxLen)
    (hs' : SeesE 2 encPoint w w.heap.size A' ps') (hl' : ps'.length ≤ 274877906944) (hlc' : ps'.length ≤ c') (hc' : (c' : Int) ≤ 9223372036854775807) (hm' : s'.size ≤ maxLen) (hz : meetF (a, k, r, s, ps) (a', k', r', s', ps') = z) :
    Calls Tryd.prog 27 #[FtV a k r s A ps.length c, FtV a' k' r' s' A' ps'.length c'] w fun e w' => e = .returned (.int .i64 z) ∧ Below w.heap.size w w' := by
  have HV := Lib.hid ((Vars.of2 w (FtC a k r s A ps.length c) (FtC a' k' r' s' A' ps'.length c') 46 46).drew)
  have HQ : Hid (∀ W, Vars w W [FtC a k r s A ps.length c, FtC a' k' r' s' A' ps'.length c'] → (W.cell? ⟨w.heap.size, 0, none⟩ = some (.int .i64 a) ∧ W.cell? ⟨w.heap.size, 1, none⟩ = some (.int .i64 k) ∧ W.cell? ⟨w.heap.size, 2, none⟩ = some (.int .i64 r) ∧ W.cell? ⟨w.heap.size, 3, none⟩ = some (.string s) ∧ W.cell? ⟨w.heap.size, 4, none⟩ = some (.slice A ps.length c)) ∧
      (W.cell? ⟨w.heap.size + 1, 0, none⟩ = some (.int .i64 a') ∧ W.cell? ⟨w.heap.size + 1, 1, none⟩ = some (.int .i64 k') ∧ W.cell? ⟨w.heap.size + 1, 2, none⟩ = some (.int .i64 r') ∧ W.cell? ⟨w.heap.size + 1, 3, none⟩ = some (.string s') ∧ W.cell? ⟨w.heap.size + 1, 4, none⟩ = some (.slice A' ps'.length c'))) := Lib.hid fun W hW => ⟨hW.c50, hW.cell _ 1 0 rfl rfl rfl, hW.cell _ 1 1 rfl rfl rfl, hW.cell _ 1 2 rfl rfl rfl, hW.cell _ 1 3 rfl rfl rfl, hW.cell _ 1 4 rfl rfl rfl⟩
  have HS := Lib.hid ((hs.below HV.out.1).mono HV.out.1.size)
  have HS' := Lib.hid ((hs'.below HV.out.1).mono HV.out.1.size)
  have HE := Lib.hid (hE.all HV.out.1)
  have HZ := Lib.hid hz
  have HQ0 := Lib.hid (HQ.out _ (Vars.of2 w (FtC a k r s A ps.length c) (FtC a' k' r' s' A' ps'.length c') 46 46))
  have HQd := Lib.hid (HQ.out _ HV.out)
  clear hs hs' hE hz
  go_enter Tryd.func27, Tryd.ntmps27
  go_upto_region 1 with fail
  go_region_held3 (fun w' => (w'.cell? ⟨w.heap.size, 0, none⟩ = some (.int .i64 a) ∧ w'.cell? ⟨w.heap.size, 1, none⟩ = some (.int .i64 k) ∧ w'.cell? ⟨w.heap.size, 2, none⟩ = some (.int .i64 r) ∧ w'.cell? ⟨w.heap.size, 3, none⟩ = some (.string s) ∧ w'.cell? ⟨w.heap.size, 4, none⟩ = some (.slice A ps.length c)) ∧
      (w'.cell? ⟨w.heap.size + 1, 0, none⟩ = some (.int .i64 a') ∧ w'.cell? ⟨w.heap.size + 1, 1, none⟩ = some (.int .i64 k') ∧ w'.cell? ⟨w.heap.size + 1, 2, none⟩ = some (.int .i64 r') ∧ w'.cell? ⟨w.heap.size + 1, 3, none⟩ = some (.string s') ∧ w'.cell? ⟨w.heap.size + 1, 4, none⟩ = some (.slice A' ps'.length c')))
    (first | with_reducible exact HQ0.out | with_reducible exact HQd.out | with_reducible exact hQ1.out | with_reducible exact hQ2.out | with_reducible exact hQ3.out) (first
    | (go_at_call 45; (with_reducible refine (greatest_is A1 A2 c1 c2 L1 L2 z _ (HO1.out.sees elSegment) (HO2.out.sees elSegment) H1 H2 HZ2.out).mono ?_); rintro e w3 ⟨rfl, hb3⟩; have HV3 := Lib.hid (HV2.out.next hb3); have hQ3 := Lib.hid (HQ.out _ HV3.out))
    | (go_at_call 46; (with_reducible refine (partsOf_any a0 a' k' r' s' A' c' ps' _ HE1.out HS1.out hl' hlc' hc' hm').mono ?_); rintro e w2 ⟨A2, c2, L2, hL2, rfl, ho2, hb2⟩; have HV2 := Lib.hid (HV1.out.next hb2); have HO1 := Lib.hid (HO1.out.belowAll hb2); have HO2 := Lib.hid ho2; have hQ2 := Lib.hid (HQ.out _ HV2.out); have H2 : L2.length ≤ 1000 := (by rw [hL2.out]; exact Nat.le_trans (parts_len _) (by decide)); have HZ2 : Hid (mtV L1 L2 = z) := Lib.hid (by rw [hL1.out, hL2.out]; exact HZ.out))
    | (go_at_call 46; (with_reducible refine (partsOf_any a0 a k r s A c ps _ HE.out HS.out hl hlc hc hm).mono ?_); rintro e w1 ⟨A1, c1, L1, hL1, rfl, ho1, hb1⟩; have HV1 := Lib.hid (HV.out.next hb1); have HS1 := Lib.hid (HS'.out.belowAll hb1); have HE1 := Lib.hid (HE.out.all hb1); have HO1 := Lib.hid ho1; have hQ1 := Lib.hid (HQ.out _ HV1.out); have H1 : L1.length ≤ 1000 := (by rw [hL1.out]; exact Nat.le_trans (parts_len _) (by decide)))
    | fail)
  all_goals
    go_wp2
    go_ret
    exact ⟨rfl, HV3.out.1⟩
end Go.Proofs.YtbnjaaegbmhopaaDoor
end
section
/- Rings in the model: RingSegments and TwiceArea. -/
namespace Go.Proofs.YtbnjaaegbmhopaaDoor
open Go.ChangeShapes Go.WideShapes Go.ChangeAt Go.RowKit
set_option linter.unusedVariables false

set_option maxRecDepth 100000 in
set_option maxHeartbeats 1000000 in
theorem sRingSegments_any (A : Option Addr) (c : Nat) (l : List (Int × Int)) (w : World) (hs : SeesE 2 encPoint w w.heap.size A l) (hl : l.length ≤ 274877906944) :
    Calls Tryd.prog 18 #[.slice A l.length c] w (GivesE 4 encSegment 53 (rsV l) w) := by
  have HS := Lib.hid hs
  clear hs
  go_enter Tryd.func18, Tryd.ntmps18
  cases hz : isRg l
  · have HV : Hid (rsV l = []) := Lib.hid (by unfold rsV; rw [hz]; rfl)
    go_wp2_with (go_at_call 9; refine (sIsRing_is A c l _ HS.out hl _ hz).mono ?_; rintro e w1 ⟨rfl, hb1⟩)
    go_ret
    exact ⟨_, _, [], Lib.hid HV.out.symm, rfl, (OwnE.lit w1 w1.heap.size 53 (Nat.le_refl _)).mono hb1.size, hb1.alloc hb1.size _⟩
  · have HV : Hid (rsV l = rgS l) := Lib.hid (by unfold rsV; rw [hz]; rfl)
    go_wp2_with (first
      | (go_at_call 9; refine (sIsRing_is A c l _ HS.out hl _ hz).mono ?_; rintro e w1 ⟨rfl, hb1⟩; have HS1 := Lib.hid (HS.out.belowAll hb1); have HB1 := Lib.hid hb1)
      | (go_at_call 30; refine (l7Segments_any A c l _ HS1.out hl).mono ?_; rintro e w2 ⟨A1, c1, L, hL, rfl, ho2, hb2⟩))
    go_ret
    exact ⟨A1, c1, L, Lib.hid (by rw [hL.out, HV.out]), rfl, ho2.mono HB1.out.size, HB1.out.trans (hb2.mono HB1.out.size)⟩
set_option maxRecDepth 100000 in
set_option maxHeartbeats 1000000 in
theorem sTwiceArea_is (A : Option Addr) (c : Nat) (l : List (Int × Int)) (w : World) (hs : SeesE 2 encPoint w w.heap.size A l) (hl : l.length ≤ 274877906944) (z : Int) (hz : twA l = z) :
    Calls Tryd.prog 13 #[.slice A l.length c] w fun e w' => e = .returned (.int .i64 z) ∧ Below w.heap.size w w' := by
  have HS := Lib.hid hs
  have HV := Lib.hid hz
  clear hs hz
  go_enter Tryd.func13, Tryd.ntmps13
  go_wp2_with (go_at_call 30; refine (l7Segments_any A c l _ HS.out hl).mono ?_; rintro e w1 ⟨A1, c1, L, hL, rfl, ho1, hb1⟩)
  have HO1 := Lib.hid ho1; have HB1 := Lib.hid hb1; have HL := hL
  have hLl : L.length ≤ 274877906944 := by rw [hL.out, rgS_len]; exact hl
  clear ho1 hb1 hL
  cases hz : isRg l
  · obtain rfl : z = 0 := by rw [← HV.out, twA_no hz]
    go_loopw [3, 5] (fun n i wr => n = .int .i64 0 ∧ i = .int .i64 0 ∧ Hid (Below w.heap.size w wr)) (fun _ _ _ => 0)
    case atStart => exact ⟨rfl, rfl, HB1⟩
    case round =>
      obtain ⟨rfl, rfl, HB⟩ := hrel
      clear HB1 HO1
      by_cases h0 : (0 : Int) < (L.length : Int)
      · go_wp2_with (go_at_call 9; refine (sIsRing_is A c l _ ((HS.out.below HB.out).mono HB.out.size) hl _ hz).mono ?_; rintro e w2 ⟨rfl, hb2⟩)
        go_ret
        exact ⟨rfl, HB.out.trans (hb2.mono HB.out.size)⟩
      · go_wp2
        go_ret
        exact ⟨rfl, HB.out⟩
  · have HOK : Hid ((∀ x ∈ rgS l, sOk x = true) ∧ (rgS l).length ≤ 10) := Lib.hid ⟨((isRg_iff l).1 hz).2.1, by rw [rgS_len]; exact ((isRg_iff l).1 hz).1.2⟩
    have HW : Hid (arV (rgS l) = z) := Lib.hid (by rw [← twA_yes hz]; exact HV.out)
    have h10 : L.length ≤ 10 := by rw [HL.out]; exact HOK.out.2
    go_loopw [3, 5] (fun n i wr => ∃ j : Nat, j ≤ L.length ∧ n = .int .i64 (arV (L.take j)) ∧ i = .int .i64 j ∧ Hid (OwnE 4 encSegment wr w.heap.size 53 (.slice A1 L.length c1) L) ∧ Hid (Below w.heap.size w wr)) (fun _ i _ => L.length - (intOf i).toNat)
    case atStart => exact ⟨0, Nat.zero_le _, rfl, rfl, HO1, HB1⟩
    case round =>
      obtain ⟨j, hj, rfl, rfl, HO, HB⟩ := hrel
      clear HO1 HB1
      by_cases hlt : j < L.length
      · have hlt' : (j : Int) < (L.length : Int) := by omega
        obtain ⟨b, off, x, rfl, hbl, hx, -⟩ := (HO.out.sees elSegment).lt hlt
        have HX := Lib.hid hx
        have hx' : sOk x = true := HOK.out.1 x (by rw [← HL.out]; exact List.mem_of_getElem? hx)
        obtain ⟨⟨p0, p1⟩, q0, q1⟩ := arS_bd hx'
        obtain ⟨N, hN⟩ : ∃ N, arV (L.take j) = N := ⟨_, rfl⟩
        have hNb : -400000 ≤ N ∧ N ≤ 400000 := by rw [← hN]; exact arV_bd_take (by rw [HL.out]; exact HOK.out.1) h10 j
        have HT : Hid (N + (x.1 * x.2.2.2 - x.2.1 * x.2.2.1) = arV (L.take (j + 1))) := Lib.hid (by rw [← hN]; exact arV_take hx)
        obtain ⟨P, hP⟩ : ∃ P, x.1 * x.2.2.2 = P := ⟨_, rfl⟩
        obtain ⟨Q, hQ⟩ : ∃ Q, x.2.1 * x.2.2.1 = Q := ⟨_, rfl⟩
        rw [hP] at p0 p1 HT
        rw [hQ] at q0 q1 HT
        have HT2 : Hid (IntKind.i64.wrap (IntKind.i64.wrap (N + IntKind.i64.wrap P) - IntKind.i64.wrap Q) = arV (L.take (j + 1))) := Lib.hid (by
          have vP : IntKind.i64.wrap P = P := IntWalk.i64_in _ (by omega)
          have vQ : IntKind.i64.wrap Q = Q := IntWalk.i64_in _ (by omega)
          have vS : IntKind.i64.wrap (N + P) = N + P := IntWalk.i64_in _ (by omega)
          have vD : IntKind.i64.wrap (N + P - Q) = N + P - Q := IntWalk.i64_in _ (by omega)
          rw [vP, vQ, vS, vD, ← HT.out]; omega)
        rw [hN]
        clear hN hx hx'
        go_wp2_with (go_at_call 9; refine (sIsRing_is A c l _ ((HS.out.below HB.out).mono HB.out.size) hl _ hz).mono ?_; rintro e w2 ⟨rfl, hb2⟩; have HB2 := Lib.hid (HB.out.trans (hb2.mono HB.out.size)); have HO2 := Lib.hid (HO.out.belowAll hb2); obtain ⟨k0, k1, k2, k3⟩ := cells4 (HO2.out.sees elSegment) HX.out)
        go_region_held3 (fun w' => w'.cell? ⟨b, off + j * 4, none⟩ = some (.int .i64 x.1) ∧ w'.cell? ⟨b, off + j * 4 + 1, none⟩ = some (.int .i64 x.2.1) ∧ w'.cell? ⟨b, off + j * 4 + 2, none⟩ = some (.int .i64 x.2.2.1) ∧ w'.cell? ⟨b, off + j * 4 + 3, none⟩ = some (.int .i64 x.2.2.2)) (first | exact ⟨k0, k1, k2, k3⟩) (fail)
        all_goals
          go_wp2
          go_roundw
          case rel => exact ⟨j + 1, by omega, by rw [HT2.out], by go_num, Lib.hid HO2.out.drew, Lib.hid HB2.out.drew⟩
          case measure => simp [intOf]; omega
      · obtain rfl : j = L.length := by omega
        rw [List.take_length]
        go_wp2
        go_ret
        exact ⟨by rw [← HW.out, HL.out]; rfl, HB.out⟩
end Go.Proofs.YtbnjaaegbmhopaaDoor
end
section
/- PartsOf and FeaturesMeet of the model. -/
namespace Go.Proofs.YtbnjaaegbmhopaaDoor
open Go.ChangeShapes Go.WideShapes Go.ChangeAt Go.RowKit
set_option linter.unusedVariables false

theorem smaxW_is (a b z : Int) (w : World) (hz : extV true a b = z) :
    Calls Tryd.prog 44 #[.int .i64 a, .int .i64 b] w fun e w' => e = .returned (.int .i64 z) ∧ Below w.heap.size w w' := by
  subst hz
  exact (smax_any a b w).mono fun e w' h => ⟨h.1, by rw [← h.2]; exact Below.refl _ _⟩
theorem mxS_stS {n : Int} {s : Sg} {T : List Sg} {j : Nat} {x : Sg} (hx : T[j]? = some x) : extV true (mxS n s (T.take j)) (howS s x) = mxS n s (T.take (j + 1)) := by
  rw [List.take_add_one, hx]; exact (mxS_snoc _ _ _ _).symm
theorem mtV_stS {S T : List Sg} {i : Nat} {u : Sg} (hu : S[i]? = some u) : mxS (mtV (S.take i) T) u T = mtV (S.take (i + 1)) T := by
  rw [List.take_add_one, hu]; exact (mtV_snoc _ _ _).symm
set_option maxRecDepth 100000 in
set_option maxHeartbeats 1000000 in
theorem sPartsOf_any (a k r : Int) (s : ByteArray) (A : Option Addr) (c : Nat) (ps : List (Int × Int)) (w : World) (hs : SeesE 2 encPoint w w.heap.size A ps) (hl : ps.length ≤ 274877906944) (hm : s.size ≤ maxLen) :
    Calls Tryd.prog 43 #[FtV a k r s A ps.length c] w (GivesE 4 encSegment 53 (partsV (a, k, r, s, ps)) w) := by
  have HV := Lib.hid (Vars.of1 w (FtC a k r s A ps.length c) 46)
  have HS := Lib.hid ((hs.below HV.out.1).mono HV.out.1.size)
  clear hs
  go_enter Tryd.func43, Tryd.ntmps43
  cases hq : featV (a, k, r, s, ps)
  · have HP := Lib.hid (parts_no hq)
    go_wp2_with fail
    refine (sIsFeature_is a k r s A c ps _ _ HS.out hl hm hq).mono ?_
    rintro e w1 ⟨rfl, hb1⟩
    have HV := Lib.hid (HV.out.next hb1)
    clear hb1
    go_wp2
    go_ret
    exact ⟨_, _, [], Lib.hid HP.out.symm, rfl, (OwnE.lit w1 w1.heap.size 53 (Nat.le_refl _)).mono HV.out.1.size, HV.out.1.alloc HV.out.1.size _⟩
  · by_cases e2 : k = 2
    · subst e2
      have HP := Lib.hid (parts_2 hq)
      go_wp2_with fail
      refine (sIsFeature_is a 2 r s A c ps _ _ HS.out hl hm hq).mono ?_
      rintro e w1 ⟨rfl, hb1⟩
      have HS1 := Lib.hid (HS.out.belowAll hb1)
      have HV := Lib.hid (HV.out.next hb1)
      clear hb1
      obtain ⟨k0, k1, k2, k3, k4⟩ := HV.out.c50
      go_wp2_with fail
      refine (sSegmentsOf_any A c ps _ HS1.out (by omega)).mono ?_
      rintro e w2 ⟨A2, c2, L, hL, rfl, ho2, hb2⟩
      have HO := Lib.hid (ho2.mono HV.out.1.size)
      have HV := Lib.hid (HV.out.next hb2)
      clear ho2 hb2
      go_wp2
      go_ret
      exact ⟨A2, c2, L, Lib.hid (by rw [hL.out, HP.out]), rfl, HO.out, HV.out.1⟩
    by_cases e3 : k = 3
    · subst e3
      have HP := Lib.hid (parts_3 hq)
      go_wp2_with fail
      refine (sIsFeature_is a 3 r s A c ps _ _ HS.out hl hm hq).mono ?_
      rintro e w1 ⟨rfl, hb1⟩
      have HS1 := Lib.hid (HS.out.belowAll hb1)
      have HV := Lib.hid (HV.out.next hb1)
      clear hb1
      obtain ⟨k0, k1, k2, k3, k4⟩ := HV.out.c50
      go_wp2_with fail
      refine (sRingSegments_any A c ps _ HS1.out hl).mono ?_
      rintro e w2 ⟨A2, c2, L, hL, rfl, ho2, hb2⟩
      have HO := Lib.hid (ho2.mono HV.out.1.size)
      have HV := Lib.hid (HV.out.next hb2)
      clear ho2 hb2
      go_wp2
      go_ret
      exact ⟨A2, c2, L, Lib.hid (by rw [hL.out, HP.out]), rfl, HO.out, HV.out.1⟩
    have HP := Lib.hid (parts_0 (a := a) (r := r) (s := s) (ps := ps) e2 e3)
    go_wp2_with fail
    refine (sIsFeature_is a k r s A c ps _ _ HS.out hl hm hq).mono ?_
    rintro e w1 ⟨rfl, hb1⟩
    have HV := Lib.hid (HV.out.next hb1)
    clear hb1
    obtain ⟨k0, k1, k2, k3, k4⟩ := HV.out.c50
    go_wp2
    go_ret
    exact ⟨_, _, [], Lib.hid HP.out.symm, rfl, (OwnE.lit w1 w1.heap.size 53 (Nat.le_refl _)).mono HV.out.1.size, HV.out.1.alloc HV.out.1.size _⟩
set_option maxRecDepth 100000 in
set_option maxHeartbeats 8000000 in
theorem sFeaturesMeet_is (a k r : Int) (s : ByteArray) (A : Option Addr) (c : Nat) (ps : List (Int × Int)) (a' k' r' : Int) (s' : ByteArray) (A' : Option Addr) (c' : Nat) (ps' : List (Int × Int)) (z : Int) (w : World)
    (hs : SeesE 2 encPoint w w.heap.size A ps) (hl : ps.length ≤ 274877906944) (hm : s.size ≤ maxLen)
    (hs' : SeesE 2 encPoint w w.heap.size A' ps') (hl' : ps'.length ≤ 274877906944) (hm' : s'.size ≤ maxLen) (hz : meetF (a, k, r, s, ps) (a', k', r', s', ps') = z) :
    Calls Tryd.prog 25 #[FtV a k r s A ps.length c, FtV a' k' r' s' A' ps'.length c'] w fun e w' => e = .returned (.int .i64 z) ∧ Below w.heap.size w w' := by
  have HV := Lib.hid (Vars.of2 w (FtC a k r s A ps.length c) (FtC a' k' r' s' A' ps'.length c') 46 46)
  have HS := Lib.hid ((hs.below HV.out.1).mono HV.out.1.size); have HS' := Lib.hid ((hs'.below HV.out.1).mono HV.out.1.size)
  have HZ0 := Lib.hid hz
  clear hs hs' hz
  go_enter Tryd.func25, Tryd.ntmps25
  go_wp2_with fail
  refine (sPartsOf_any a k r s A c ps _ HS.out hl hm).mono ?_
  rintro e w1 ⟨A1, c1, L, hL, rfl, ho1, hb1⟩
  have HO1 := Lib.hid ho1; have HV1 := Lib.hid (HV.out.next hb1)
  have HS1 := Lib.hid (HS'.out.belowAll hb1)
  obtain ⟨k0, k1, k2, k3, k4⟩ : _ ∧ _ ∧ _ ∧ _ ∧ _ := ⟨HV1.out.cell (w.heap.size + 1) 1 0 rfl rfl rfl, HV1.out.cell (w.heap.size + 1) 1 1 rfl rfl rfl, HV1.out.cell (w.heap.size + 1) 1 2 rfl rfl rfl, HV1.out.cell (w.heap.size + 1) 1 3 rfl rfl rfl, HV1.out.cell (w.heap.size + 1) 1 4 rfl rfl rfl⟩
  clear ho1 hb1
  go_wp2_with fail
  refine (sPartsOf_any a' k' r' s' A' c' ps' _ HS1.out hl' hm').mono ?_
  rintro e w2 ⟨A2, c2, L2, hL2, rfl, ho2, hb2⟩
  have HO2 := Lib.hid ((HO1.out.belowAll hb2).mono HV.out.1.size); have HB2 := Lib.hid (HV1.out.next hb2).1; have HP2 := Lib.hid (ho2.mono HV1.out.1.size)
  clear ho2 hb2 HO1 k0 k1 k2 k3 k4
  have HZ : Hid (mtV L L2 = z) := Lib.hid (by rw [hL.out, hL2.out]; exact HZ0.out)
  have h9 : L.length ≤ 10 := by rw [hL.out]; exact parts_len _
  have h9' : L2.length ≤ 10 := by rw [hL2.out]; exact parts_len _
  clear HZ0 hL hL2
  go_wp2
  go_loopw [5, 8] (fun n i wr => ∃ j : Nat, j ≤ L.length ∧ n = .int .i64 (mtV (L.take j) L2) ∧ i = .int .i64 j ∧ Hid (OwnE 4 encSegment wr w.heap.size 53 (.slice A1 L.length c1) L) ∧ Hid (OwnE 4 encSegment wr w.heap.size 53 (.slice A2 L2.length c2) L2) ∧ Hid (Below w.heap.size w wr)) (fun _ i _ => L.length - (intOf i).toNat)
  case atStart => exact ⟨0, Nat.zero_le _, rfl, rfl, HO2, HP2, HB2⟩
  case round =>
    obtain ⟨i, hi, rfl, rfl, HO, HP, HB⟩ := hrel
    clear HO2 HP2 HB2
    by_cases hlt : i < L.length
    · have hli : (i : Int) < (L.length : Int) := by omega
      obtain ⟨u, hu⟩ : ∃ u, L[i]? = some u := ⟨_, List.getElem?_eq_getElem hlt⟩
      obtain ⟨N, hN⟩ : ∃ N, mtV (L.take i) L2 = N := ⟨_, rfl⟩
      have HT : Hid (mxS N u L2 = mtV (L.take (i + 1)) L2) := Lib.hid (by rw [← hN]; exact mtV_stS hu)
      have HU := Lib.hid hu
      rw [hN]
      clear hu hN
      go_wp2
      go_loopw [5, 9] (fun n k wx => ∃ j : Nat, j ≤ L2.length ∧ n = .int .i64 (mxS N u (L2.take j)) ∧ k = .int .i64 j ∧ Hid (OwnE 4 encSegment wx w.heap.size 53 (.slice A1 L.length c1) L) ∧ Hid (OwnE 4 encSegment wx w.heap.size 53 (.slice A2 L2.length c2) L2) ∧ Hid (Below w.heap.size w wx)) (fun _ k _ => L2.length - (intOf k).toNat)
      case atStart => exact ⟨0, Nat.zero_le _, rfl, rfl, HO, HP, HB⟩
      case round =>
        obtain ⟨j, hj, rfl, rfl, HO, HP, HB⟩ := hrel
        by_cases hlj : j < L2.length
        · have hlj' : (j : Int) < (L2.length : Int) := by omega
          obtain ⟨b, off, -, rfl, hbl, -, -⟩ := (HO.out.sees elSegment).lt hlt
          obtain ⟨b', off', v, rfl, hbl', hv, -⟩ := (HP.out.sees elSegment).lt hlj
          obtain ⟨k0, k1, k2, k3⟩ := cells4 (HO.out.sees elSegment) HU.out
          obtain ⟨k4, k5, k6, k7⟩ := cells4 (HP.out.sees elSegment) hv
          have HV := Lib.hid hv
          obtain ⟨M, hM⟩ : ∃ M, mxS N u (L2.take j) = M := ⟨_, rfl⟩
          obtain ⟨m, hm⟩ : ∃ m, howS u v = m := ⟨_, rfl⟩
          have HX : Hid (extV true M m = mxS N u (L2.take (j + 1))) := Lib.hid (by rw [← hM, ← hm]; exact mxS_stS hv)
          rw [hM]
          clear hv hM
          obtain ⟨x, hx⟩ : ∃ x, extV true M m = x := ⟨_, rfl⟩
          rw [hx] at HX
          go_wp2
          go_region_held3 (fun w' => (w'.cell? ⟨b, off + i * 4, none⟩ = some (.int .i64 u.1) ∧ w'.cell? ⟨b, off + i * 4 + 1, none⟩ = some (.int .i64 u.2.1) ∧ w'.cell? ⟨b, off + i * 4 + 2, none⟩ = some (.int .i64 u.2.2.1) ∧ w'.cell? ⟨b, off + i * 4 + 3, none⟩ = some (.int .i64 u.2.2.2)) ∧ (w'.cell? ⟨b', off' + j * 4, none⟩ = some (.int .i64 v.1) ∧ w'.cell? ⟨b', off' + j * 4 + 1, none⟩ = some (.int .i64 v.2.1) ∧ w'.cell? ⟨b', off' + j * 4 + 2, none⟩ = some (.int .i64 v.2.2.1) ∧ w'.cell? ⟨b', off' + j * 4 + 3, none⟩ = some (.int .i64 v.2.2.2))) (first | exact ⟨⟨k0, k1, k2, k3⟩, ⟨k4, k5, k6, k7⟩⟩ | exact hQ | exact hQ2) (first
            | (go_at_call 32; refine (sHowS_is u v _ _ hm).mono ?_; rintro e w9 ⟨rfl, hb9⟩; have HB9 := Lib.hid (HB.out.drew.trans (hb9.mono HB.out.size)); have HO9 := Lib.hid ((HO.out.drew).belowAll hb9); have HP9 := Lib.hid ((HP.out.drew).belowAll hb9); have hQ := And.intro (cells4 (HO9.out.sees elSegment) HU.out) (cells4 (HP9.out.sees elSegment) HV.out))
            | (go_at_call 44; refine (smaxW_is M m x _ hx).mono ?_; rintro e w8 ⟨rfl, hb8⟩; have HB8 := Lib.hid (HB9.out.trans (hb8.mono HB9.out.size)); have HO8 := Lib.hid (HO9.out.belowAll hb8); have HP8 := Lib.hid (HP9.out.belowAll hb8); have hQ2 := And.intro (cells4 (HO8.out.sees elSegment) HU.out) (cells4 (HP8.out.sees elSegment) HV.out)) | fail)
          all_goals
            go_wp2
            go_roundw
            case rel => exact ⟨j + 1, by omega, by rw [← HX.out], by go_num, HO8, HP8, HB8⟩
            case measure => simp [intOf]; omega
        · obtain rfl : j = L2.length := by omega
          rw [List.take_length]
          go_wp2
          go_roundw
          case rel => exact ⟨i + 1, by omega, by rw [← HT.out], by go_num, HO, HP, HB⟩
          case measure => simp [intOf]; omega
    · obtain rfl : i = L.length := by omega
      rw [List.take_length]
      go_wp2
      go_ret
      exact ⟨by rw [← HZ.out]; rfl, HB.out⟩
end Go.Proofs.YtbnjaaegbmhopaaDoor
end
section
/- What the statements list of errNoRing, as the walks read it. -/
namespace Go.Proofs.YtbnjaaegbmhopaaDoor
open Go.ChangeShapes Go.WideShapes Go.ChangeAt Go.RowKit Go.Stop
set_option linter.unusedVariables false
set_option maxRecDepth 100000

theorem errName : Tryd.prog.globalNamed "loop.example/g03005/impl.errNoRing" = some 0 := by kernel_rfl
theorem errType : (Tryd.prog.globals[0]?).map (·.type) = some 56 := by kernel_rfl
theorem errStar : "*" ++ "errors.errorString" = "*errors.errorString" := by decide
theorem errRow (u : TypeId) (h : Tryd.prog.typeName? 3 u = some "*errors.errorString") : u = 162 :=
  typeName_ptr_named (nm := "errors.errorString") (by rw [errStar]; kernel_rfl) (by kernel_rfl) (by decide) u (by rw [errStar]; exact h)
theorem errCells : Tryd.prog.cellsOf 187 = 1 := by kernel_rfl
theorem strCells : Tryd.prog.cellsOf 9 = 1 := by kernel_rfl
theorem errAt_of {w : World} (hL : laidMet Tryd.prog [("loop.example/g03005/impl.errNoRing", Rows.laid_loop_example_g03005_impl_errNoRing)] w) : ∃ a0, ErrAt a0 w := by
  obtain ⟨a, s, hv, -, -, -⟩ := laid_sentinel (tp := 162) (te := 187) (ts := 9) hL errName errType Tryd.underlying56 errRow Tryd.underlying162 Tryd.underlying187 rfl rfl Tryd.underlying9 errCells strCells
  exact ⟨a, by have := World.var?_cell errName hv 0; simpa [ErrAt] using this⟩
theorem errVar_of {w : World} (hL : laidMet Tryd.prog [("loop.example/g03005/impl.errNoRing", Rows.laid_loop_example_g03005_impl_errNoRing)] w) : ∃ a0, w.var? Tryd.prog "loop.example/g03005/impl.errNoRing" = some #[.iface 162 (.pointer (some a0))] := by
  obtain ⟨a, s, hv, -, -, -⟩ := laid_sentinel (tp := 162) (te := 187) (ts := 9) hL errName errType Tryd.underlying56 errRow Tryd.underlying162 Tryd.underlying187 rfl rfl Tryd.underlying9 errCells strCells
  exact ⟨a, hv⟩
theorem errVars {H : Type} (enc : TypeId × Value → H) {W : World} {a0 : Addr} (h : W.var? Tryd.prog "loop.example/g03005/impl.errNoRing" = some #[.iface 162 (.pointer (some a0))]) (sp : Nat → Bool) :
    DataW.TrodVars enc Tryd.prog W sp ["loop.example/g03005/impl.errNoRing"] [tok enc (.iface 162 (.pointer (some a0)))] [.cell 0 0] :=
  vars_read1 enc errName errType Tryd.underlying56 h trivial sp
theorem errVar_below {W W' : World} {a0 : Addr} (h : W.var? Tryd.prog "loop.example/g03005/impl.errNoRing" = some #[.iface 162 (.pointer (some a0))]) (hb : Below W.heap.size W W') : W'.var? Tryd.prog "loop.example/g03005/impl.errNoRing" = some #[.iface 162 (.pointer (some a0))] :=
  var?_below hb errName (World.block_lt_of_cell? _ _ (World.var?_cell errName h 0)) h
end Go.Proofs.YtbnjaaegbmhopaaDoor
end
section
/- The exact law of FeaturesMeet. -/
namespace Go.Proofs.YtbnjaaegbmhopaaDoor
open Go.ChangeShapes Go.WideShapes Go.ChangeAt Go.RowKit
set_option linter.unusedVariables false

set_option maxRecDepth 100000 in
set_option maxHeartbeats 2000000 in
theorem law_FnExactFeaturesMeet (a0 : Addr) (a k r : Int) (s : ByteArray) (A : Option Addr) (m c : Nat) (ps : List (Int × Int)) (a' k' r' : Int) (s' : ByteArray) (A' : Option Addr) (m' c' : Nat) (ps' : List (Int × Int)) (w : World) (hE : ErrAt a0 w) (wf0 : ShowsFt w s A m c ps) (wf1 : ShowsFt w s' A' m' c' ps') :
    Calls Tryd.prog 7 #[FtV a k r s A m c, FtV a' k' r' s' A' m' c'] w fun e w' => e = .returned (.bool true) ∧ Below w.heap.size w w' := by
  obtain ⟨hs0, ⟨rfl, hp0, hm0⟩, -, -⟩ := wf0
  obtain ⟨hs1, ⟨rfl, hp1, hm1⟩, -, -⟩ := wf1
  have HV0 := Lib.hid (Vars.of2 w (FtC a k r s A ps.length c) (FtC a' k' r' s' A' ps'.length c') 42 42)
  have HE := Lib.hid hE; clear hE
  have HP0 := Lib.hid hp0
  have HP1 := Lib.hid hp1
  have HS0 := Lib.hid hs0
  have HS1 := Lib.hid hs1
  obtain ⟨z, hz⟩ : ∃ z, meetF (a, k, r, s, ps) (a', k', r', s', ps') = z := ⟨_, rfl⟩
  have HZ := Lib.hid hz
  obtain ⟨m0, hmz0⟩ : ∃ m, szF 1048576 (a, k, r, s, ps) = m := ⟨_, rfl⟩
  have HM0 := Lib.hid hmz0
  clear hp0 hp1 hs0 hs1 hz hmz0
  go_enter Tryd.func7, Tryd.ntmps7
  go_upto_region 2 with fail
  generalize ((w.alloc (.cells (FtC a k r s A ps.length c) 42)).alloc (.cells (FtC a' k' r' s' A' ps'.length c') 42)) = wz at HV0 ⊢
  obtain ⟨k0, k1, k2, k3, k4, k5, k6, k7, k8, k9⟩ := HV0.out.c55
  go_wp2_with fail
  refine (szFeature_is a k r s A c ps 1048576 m0 _ (by decide) (by decide) HS0.out hm0 HM0.out).mono ?_
  rintro e w1 ⟨rfl, hb1⟩
  have HV1 := Lib.hid (HV0.out.next hb1)
  clear hb1 HV0 k0 k1 k2 k3 k4 k5 k6 k7 k8 k9
  by_cases hneg0 : m0 < 0
  · go_wp2
    go_ret
    exact ⟨rfl, HV1.out.1⟩
  have hq0 := szF_le (left := 1048576) (f := (a, k, r, s, ps)) (by rw [HM0.out]; omega)
  obtain ⟨hq1, hq2, hq3⟩ := hq0
  rw [HM0.out] at hq1
  dsimp only at hq2 hq3
  obtain ⟨m1, hmz1⟩ : ∃ m, szF m0 (a', k', r', s', ps') = m := ⟨_, rfl⟩
  have HM1 := Lib.hid hmz1
  have hl0 : ps.length ≤ 1099511627776 := by omega
  have hbb0 : ps.length ≤ 274877906944 := by omega
  have hm00 : 0 ≤ m0 := by omega
  clear hmz1 hq2 hq3
  obtain ⟨k0, k1, k2, k3, k4, k5, k6, k7, k8, k9⟩ := HV1.out.c55
  go_wp2_with fail
  refine (szFeature_is a' k' r' s' A' c' ps' m0 m1 _ hm00 hq1 HS1.out hm1 HM1.out).mono ?_
  rintro e w2 ⟨rfl, hb2⟩
  have HV2 := Lib.hid (HV1.out.next hb2)
  clear hb2 HV1 k0 k1 k2 k3 k4 k5 k6 k7 k8 k9
  by_cases hneg1 : m1 < 0
  · go_wp2
    go_ret
    exact ⟨rfl, HV2.out.1⟩
  have hq4 := (szF_le (left := m0) (f := (a', k', r', s', ps')) (by rw [HM1.out]; omega)).2.2
  dsimp only at hq4
  have hl1 : ps'.length ≤ 1099511627776 := by omega
  have hbb1 : ps'.length ≤ 274877906944 := by omega
  clear hq4
  go_upto_region 8 with fail
  go_cut [6] (fun s6 wx => s6 = .int .i64 z ∧ Hid (Vars w wx [FtC a k r s A ps.length c, FtC a' k' r' s' A' ps'.length c']))
  case first =>
    obtain ⟨k0, k1, k2, k3, k4, k5, k6, k7, k8, k9⟩ := HV2.out.c55
    have HVd := Lib.hid HV2.out.drew
    have HKd := Lib.hid HVd.out.c55
    have HPd0 := Lib.hid ((HP0.out.below HVd.out.1).mono HVd.out.1.size)
    have HPd1 := Lib.hid ((HP1.out.below HVd.out.1).mono HVd.out.1.size)
    go_region_held3 (fun w' => w'.cell? ⟨w.heap.size, 0, none⟩ = some (.int .i64 a) ∧ w'.cell? ⟨w.heap.size, 1, none⟩ = some (.int .i64 k) ∧ w'.cell? ⟨w.heap.size, 2, none⟩ = some (.int .i64 r) ∧ w'.cell? ⟨w.heap.size, 3, none⟩ = some (.string s) ∧ w'.cell? ⟨w.heap.size, 4, none⟩ = some (.slice A ps.length c) ∧ w'.cell? ⟨w.heap.size + 1, 0, none⟩ = some (.int .i64 a') ∧ w'.cell? ⟨w.heap.size + 1, 1, none⟩ = some (.int .i64 k') ∧ w'.cell? ⟨w.heap.size + 1, 2, none⟩ = some (.int .i64 r') ∧ w'.cell? ⟨w.heap.size + 1, 3, none⟩ = some (.string s') ∧ w'.cell? ⟨w.heap.size + 1, 4, none⟩ = some (.slice A' ps'.length c')) (first | with_reducible exact ⟨k0, k1, k2, k3, k4, k5, k6, k7, k8, k9⟩ | with_reducible exact HKd.out | with_reducible exact HKe.out | with_reducible exact HKf.out | with_reducible exact HKg.out | fail) (first
      | (go_at_call 26; refine (toFeature_any a' k' r' s' A' c' ps' _ HPe.out hl1).mono ?_; rintro e w9 ⟨A2, L2, c2, hL2, rfl, ho2, hb2⟩; obtain rfl : ps' = L2 := hL2.out.symm; have HVf := Lib.hid (HVe.out.next hb2); have HKf := Lib.hid HVf.out.c55; have HO2 := Lib.hid (ho2.sees elPoint); have HO1f := Lib.hid (HO1.out.belowAll hb2))
      | (go_at_call 26; refine (toFeature_any a k r s A c ps _ HPd0.out hl0).mono ?_; rintro e w9 ⟨A1, L1, c1, hL1, rfl, ho1, hb1⟩; obtain rfl : ps = L1 := hL1.out.symm; have HVe := Lib.hid (HVd.out.next hb1); have HKe := Lib.hid HVe.out.c55; have HO1 := Lib.hid (ho1.sees elPoint); have HPe := Lib.hid (HPd1.out.belowAll hb1))
      | (go_at_call 25; refine (sFeaturesMeet_is a k r s A1 c1 ps a' k' r' s' A2 c2 ps' z _ HO1f.out hbb0 HS0.out HO2.out hbb1 HS1.out HZ.out).mono ?_; rintro e w9 ⟨rfl, hb3⟩; have HVg := Lib.hid (HVf.out.next hb3); have HKg := Lib.hid HVg.out.c55)
      | fail)
    all_goals
      go_wp2_with fail
      go_meet
      exact ⟨rfl, HVg⟩
  case rest =>
  obtain ⟨rfl, HV3⟩ := hcut
  clear HV2
  go_upto_region 9 with fail
  go_cut [7] (fun sx wx => Hid (∃ bx Ax cx, sx = .pointer (some ⟨bx, 0, none⟩) ∧ Vars w wx [FtC a k r s A ps.length c, FtC a' k' r' s' A' ps'.length c'] ∧ OneV (w.heap.size + 2) wx bx (FtC a k r s Ax ps.length cx) ∧ SeesE 2 encPoint wx wx.heap.size Ax ps ∧ ps.length ≤ cx ∧ (cx : Int) ≤ 9223372036854775807))
  case first =>
    obtain ⟨k0, k1, k2, k3, k4, k5, k6, k7, k8, k9⟩ := HV3.out.c55
    have HPd := Lib.hid ((HP0.out.below HV3.out.1).mono HV3.out.1.size)
    go_wp2_with fail
    refine (toFeature_any a k r s A c ps _ HPd.out hl0).mono ?_
    rintro e w9 ⟨A1, L1, c1, hL1, rfl, ho1, hb1⟩
    obtain rfl : ps = L1 := hL1.out.symm
    have HVe := Lib.hid (HV3.out.next hb1)
    have HO1 := Lib.hid (ho1.sees elPoint)
    have hcp := Lib.hid (own_caps ho1).2
    go_wp2_with fail
    go_meet
    exact Lib.hid ⟨_, _, _, rfl, HVe.out.al _, OneV.new _ HVe.out.more2 _ _, HO1.out.belowAll ((Below.refl _ _).alloc (Nat.le_refl _) _), hcp.out⟩
  case rest =>
  obtain ⟨b7, A7, c7, rfl, hv, hx, ho, hk7, hj7⟩ := hcut.out
  clear hcut HV3 
  have HV3 := Lib.hid hv
  have HX7 := Lib.hid hx
  have HO7 := Lib.hid ho
  clear hv hx ho 
  go_upto_region 10 with fail
  go_cut [8] (fun sx wx => Hid (∃ bx Ax cx, sx = .pointer (some ⟨bx, 0, none⟩) ∧ Vars w wx [FtC a k r s A ps.length c, FtC a' k' r' s' A' ps'.length c'] ∧ OneV (w.heap.size + 2) wx bx (FtC a' k' r' s' Ax ps'.length cx) ∧ SeesE 2 encPoint wx wx.heap.size Ax ps' ∧ (ps'.length ≤ cx ∧ (cx : Int) ≤ 9223372036854775807) ∧ OneV (w.heap.size + 2) wx b7 (FtC a k r s A7 ps.length c7) ∧ SeesE 2 encPoint wx wx.heap.size A7 ps))
  case first =>
    obtain ⟨k0, k1, k2, k3, k4, k5, k6, k7, k8, k9⟩ := HV3.out.c55
    have HPd := Lib.hid ((HP1.out.below HV3.out.1).mono HV3.out.1.size)
    go_wp2_with fail
    refine (toFeature_any a' k' r' s' A' c' ps' _ HPd.out hl1).mono ?_
    rintro e w9 ⟨A1, L1, c1, hL1, rfl, ho1, hb1⟩
    obtain rfl : ps' = L1 := hL1.out.symm
    have HVe := Lib.hid (HV3.out.next hb1)
    have HO1 := Lib.hid (ho1.sees elPoint)
    have hcp := Lib.hid (own_caps ho1).2
    have HX7e := Lib.hid (HX7.out.next hb1)
    have HO7e := Lib.hid (HO7.out.belowAll hb1)
    go_wp2_with fail
    go_meet
    exact Lib.hid ⟨_, _, _, rfl, HVe.out.al _, OneV.new _ HVe.out.more2 _ _, HO1.out.belowAll ((Below.refl _ _).alloc (Nat.le_refl _) _), hcp.out, HX7e.out.al _, HO7e.out.belowAll ((Below.refl _ _).alloc (Nat.le_refl _) _)⟩
  case rest =>
  obtain ⟨b8, A8, c8, rfl, hv, hx, ho, ⟨hk8, hj8⟩, hHX7, hHO7⟩ := hcut.out
  clear hcut HV3 HX7 HO7
  have HV3 := Lib.hid hv
  have HX8 := Lib.hid hx
  have HO8 := Lib.hid ho
  have HX7 := Lib.hid hHX7
  have HO7 := Lib.hid hHO7
  clear hv hx ho hHX7 hHO7
  obtain ⟨i0, i1, i2, i3, i4⟩ := HX7.out.c5
  obtain ⟨j0, j1, j2, j3, j4⟩ := HX8.out.c5
  go_wp2_with fail
  refine (featuresMeet_is a0 a k r s A7 c7 ps a' k' r' s' A8 c8 ps' z _ (HE.out.all HV3.out.1) HO7.out hbb0 hk7 hj7 HS0.out HO8.out hbb1 hk8 hj8 HS1.out HZ.out).mono ?_
  rintro e w9 ⟨rfl, hb9⟩
  have HV4 := Lib.hid (HV3.out.next hb9)
  have HX7e := Lib.hid (HX7.out.next hb9)
  have HX8e := Lib.hid (HX8.out.next hb9)
  have HO7e := Lib.hid (HO7.out.belowAll hb9)
  have HO8e := Lib.hid (HO8.out.belowAll hb9)
  clear hb9 HV3 HX7 HX8 HO7 HO8 i0 i1 i2 i3 i4 j0 j1 j2 j3 j4
  have hzz : (z != z) = false := by simp
  go_upto_region 14 with fail
  go_cut [39] (fun sx wx => sx = .bool false ∧ Hid (Vars w wx [FtC a k r s A ps.length c, FtC a' k' r' s' A' ps'.length c']) ∧ Hid (OneV (w.heap.size + 2) wx b8 (FtC a' k' r' s' A8 ps'.length c8)) ∧ Hid (SeesE 2 encPoint wx wx.heap.size A8 ps'))
  case first =>
    have HVd := Lib.hid HV4.out.drew
    obtain ⟨k0, k1, k2, k3, k4, k5, k6, k7, k8, k9⟩ := HV4.out.c55
    obtain ⟨i0, i1, i2, i3, i4⟩ := HX7e.out.c5
    have HKd := Lib.hid (both5 (OneV.drew HX7e.out).c5 (HVd.out.c55l))
    have HPd := Lib.hid ((HP0.out.below HVd.out.1).mono HVd.out.1.size)
    have HOd := Lib.hid ((HO7e.out.below (Below.refl _ _).drew).mono (Nat.le_refl _))
    have HX8d := Lib.hid (OneV.drew HX8e.out)
    have HO8d := Lib.hid ((HO8e.out.below (Below.refl _ _).drew).mono (Nat.le_refl _))
    go_region_held3 (fun w' => w'.cell? ⟨b7, 0, none⟩ = some (.int .i64 a) ∧ w'.cell? ⟨b7, 1, none⟩ = some (.int .i64 k) ∧ w'.cell? ⟨b7, 2, none⟩ = some (.int .i64 r) ∧ w'.cell? ⟨b7, 3, none⟩ = some (.string s) ∧ w'.cell? ⟨b7, 4, none⟩ = some (.slice A7 ps.length c7) ∧ w'.cell? ⟨w.heap.size, 0, none⟩ = some (.int .i64 a) ∧ w'.cell? ⟨w.heap.size, 1, none⟩ = some (.int .i64 k) ∧ w'.cell? ⟨w.heap.size, 2, none⟩ = some (.int .i64 r) ∧ w'.cell? ⟨w.heap.size, 3, none⟩ = some (.string s) ∧ w'.cell? ⟨w.heap.size, 4, none⟩ = some (.slice A ps.length c)) (first | with_reducible exact ⟨i0, i1, i2, i3, i4, k0, k1, k2, k3, k4⟩ | with_reducible exact HKd.out | with_reducible exact HKf.out | with_reducible exact HKg.out | fail) (first
      | (go_at_call 26; refine (toFeature_any a k r s A c ps _ HPd.out hl0).mono ?_; rintro e w9 ⟨A1, L1, c1, hL1, rfl, ho1, hb1⟩; obtain rfl : ps = L1 := hL1.out.symm; have HVf := Lib.hid (HVd.out.next hb1); have HXf := Lib.hid ((OneV.drew HX7e.out).next hb1); have HKf := Lib.hid (both5 HXf.out.c5 HVf.out.c55l); have HOf := Lib.hid (ho1.sees elPoint); have HO1f := Lib.hid (HOd.out.belowAll hb1); have HX8f := Lib.hid (HX8d.out.next hb1); have HO8f := Lib.hid (HO8d.out.belowAll hb1))
      | (go_at_call 28; refine (eqFeature_yes a k r s A7 A1 c7 c1 ps ps _ HO1f.out HOf.out rfl hl0).mono ?_; rintro e w9 ⟨rfl, hb3⟩; have HVg := Lib.hid (HVf.out.next hb3); have HXg := Lib.hid (HXf.out.next hb3); have HKg := Lib.hid (both5 HXg.out.c5 HVg.out.c55l); have HX8g := Lib.hid (HX8f.out.next hb3); have HO8g := Lib.hid (HO8f.out.belowAll hb3))
      | fail)
    all_goals
      go_wp2_with fail
      go_meet
      exact ⟨rfl, HVg, HX8g, HO8g⟩
  case rest =>
  obtain ⟨rfl, HV5, HX8h, HO8h⟩ := hcut
  clear HV4 HX7e HX8e HO7e HO8e
  go_upto_region 16 with fail
  go_cut [44] (fun sx wx => sx = .bool false ∧ Hid (Vars w wx [FtC a k r s A ps.length c, FtC a' k' r' s' A' ps'.length c']))
  case first =>
    have HVd := Lib.hid HV5.out.drew
    obtain ⟨k0, k1, k2, k3, k4, k5, k6, k7, k8, k9⟩ := HV5.out.c55
    obtain ⟨i0, i1, i2, i3, i4⟩ := HX8h.out.c5
    have HKd := Lib.hid (both5 (OneV.drew HX8h.out).c5 (HVd.out.c55r))
    have HPd := Lib.hid ((HP1.out.below HVd.out.1).mono HVd.out.1.size)
    have HOd := Lib.hid ((HO8h.out.below (Below.refl _ _).drew).mono (Nat.le_refl _))
    go_region_held3 (fun w' => w'.cell? ⟨b8, 0, none⟩ = some (.int .i64 a') ∧ w'.cell? ⟨b8, 1, none⟩ = some (.int .i64 k') ∧ w'.cell? ⟨b8, 2, none⟩ = some (.int .i64 r') ∧ w'.cell? ⟨b8, 3, none⟩ = some (.string s') ∧ w'.cell? ⟨b8, 4, none⟩ = some (.slice A8 ps'.length c8) ∧ w'.cell? ⟨w.heap.size + 1, 0, none⟩ = some (.int .i64 a') ∧ w'.cell? ⟨w.heap.size + 1, 1, none⟩ = some (.int .i64 k') ∧ w'.cell? ⟨w.heap.size + 1, 2, none⟩ = some (.int .i64 r') ∧ w'.cell? ⟨w.heap.size + 1, 3, none⟩ = some (.string s') ∧ w'.cell? ⟨w.heap.size + 1, 4, none⟩ = some (.slice A' ps'.length c')) (first | with_reducible exact ⟨i0, i1, i2, i3, i4, k5, k6, k7, k8, k9⟩ | with_reducible exact HKd.out | with_reducible exact HKf.out | with_reducible exact HKg.out | fail) (first
      | (go_at_call 26; refine (toFeature_any a' k' r' s' A' c' ps' _ HPd.out hl1).mono ?_; rintro e w9 ⟨A1, L1, c1, hL1, rfl, ho1, hb1⟩; obtain rfl : ps' = L1 := hL1.out.symm; have HVf := Lib.hid (HVd.out.next hb1); have HXf := Lib.hid ((OneV.drew HX8h.out).next hb1); have HKf := Lib.hid (both5 HXf.out.c5 HVf.out.c55r); have HOf := Lib.hid (ho1.sees elPoint); have HO1f := Lib.hid (HOd.out.belowAll hb1))
      | (go_at_call 28; refine (eqFeature_yes a' k' r' s' A8 A1 c8 c1 ps' ps' _ HO1f.out HOf.out rfl hl1).mono ?_; rintro e w9 ⟨rfl, hb3⟩; have HVg := Lib.hid (HVf.out.next hb3); have HXg := Lib.hid (HXf.out.next hb3); have HKg := Lib.hid (both5 HXg.out.c5 HVg.out.c55r))
      | fail)
    all_goals
      go_wp2_with fail
      go_meet
      exact ⟨rfl, HVg⟩
  case rest =>
  obtain ⟨rfl, HV6⟩ := hcut
  go_wp2
  go_ret
  exact ⟨rfl, HV6.out.1⟩
theorem law_FnExactFeaturesMeet_laid (w : World) (a k r : Int) (s : ByteArray) (A : Option Addr) (m c : Nat) (ps : List (Int × Int)) (wf0 : ShowsFt w s A m c ps) (a' k' r' : Int) (s' : ByteArray) (A' : Option Addr) (m' c' : Nat) (ps' : List (Int × Int)) (wf1 : ShowsFt w s' A' m' c' ps') (hL : laidMet Tryd.prog Rows.fnExactFeaturesMeetRow.laid w) :
    Calls Tryd.prog 7 #[FtV a k r s A m c, FtV a' k' r' s' A' m' c'] w fun e w' => e = .returned (.bool true) ∧ Below w.heap.size w w' := by
  obtain ⟨a0, hE⟩ := errAt_of hL
  exact law_FnExactFeaturesMeet a0 a k r s A m c ps a' k' r' s' A' m' c' ps' w hE wf0 wf1
end Go.Proofs.YtbnjaaegbmhopaaDoor
end
section
namespace Go.Proofs.YtbnjaaegbmhopaaDoor.fnExactFeaturesMeet
open Go.ChangeShapes Go.WideShapes Go.ChangeAt Go.WideMaps Go.WideElems Go.RowKit
open Go.ChangeMaps (open_string shut_string)
set_option linter.unusedVariables false

theorem own : ownKnob Tryd.prog.godebug = none := by kernel_rfl
theorem laidOut : laidOutB Tryd.prog = true := by kernel_rfl

/-- What the package-level variables hold behind the program's own initialisers meets the row's condition. -/
theorem door_met (os : Os) (args : Array Value) : laidMetH Tryd.prog Rows.fnExactFeaturesMeetRow.laid ((World.doorLaid Tryd.prog 28 os).forCall (fun _ _ => 0) ⟨#[], args, []⟩).memory :=
  laidMetH_of_parts3 (fuel := 8) (laidMet_of_run' 8 (by kernel_rfl) (by kernel_rfl)) (by kernel_rfl) (by kernel_rfl)

set_option maxRecDepth 100000 in
theorem lifted (os : Os) (started : os.Started) (H : Type) (enc : TypeId × Value → H) :
    ReturnsInHanded {} Tryd.checked os 7 .any (fun w args => (Rows.fnExactFeaturesMeetSpec.pre enc Tryd.prog Tryd.f7 [] false w args ∧ laidMetH Tryd.prog Rows.fnExactFeaturesMeetRow.laid w) ∧ sizedMet enc Tryd.prog Tryd.f7 (OpenSpec.ofChange Rows.fnExactFeaturesMeetSpec) false w args)
      (Rows.fnExactFeaturesMeetSpec.post enc Tryd.prog Tryd.f7 false true false false) := by
  refine returnsInHanded_of_change_and (C := Tryd.checked) (X := fun w _ => laidMetH Tryd.prog Rows.fnExactFeaturesMeetRow.laid w) (fun _ _ _ hh h => h.of_heap hh) own started (by kernel_rfl) Tryd.func7
    (ChangeSpec.witness_shaped (enc := enc) (C := Tryd.checked) (os := os) (X := fun w _ => laidMetH Tryd.prog Rows.fnExactFeaturesMeetRow.laid w) false (World.doorLaid Tryd.prog 28 os) #[.agg #[.int .i64 0, .int .i64 0, .int .i64 0, .string ⟨#[]⟩, .slice none 0 0], .agg #[.int .i64 0, .int .i64 0, .int .i64 0, .string ⟨#[]⟩, .slice none 0 0]] 8 rfl (World.shaped_of_RefB (by kernel_rfl) (by kernel_rfl)) (by kernel_rfl) (by kernel_rfl) (by kernel_rfl) (door_met os _)) ?_
  intro W base args ds gs before hval0 hW _ hsz0 hL0 _
  have hsz : (DataW.weightsEach Tryd.prog (Tryd.f7.params.toList ++ Rows.fnExactFeaturesMeetSpec.plain.varTypes Tryd.prog) (ds ++ gs)).all (· ≤ reachBytes) = true := hsz0
  clear hsz0
  have hL : laidMet Tryd.prog Rows.fnExactFeaturesMeetRow.laid W := by rw [MakeChecks.laidMetH_plain _ _ _ (by kernel_rfl)] at hL0; exact hL0
  have hval : ∀ (j : Nat) t v, Tryd.f7.params[j]? = some t → args[j]? = some v → Value.okWide Tryd.prog W .any base t v := hval0
  have hW' := hW
  obtain ⟨p, q, hA0, hV, rfl, hfz, hnd⟩ := hW
  have hA : DataW.TrodAll enc Tryd.prog W 0 (fun _ => true) true Tryd.f7.params.toList args.toList ds p := hA0
  rw [Tryd.params7] at hA hval hsz
  obtain ⟨v0, vs0, d0, ds0, p0, q0, hargs, rfl, rfl, h0, r0⟩ := trodAll_cons hA
  obtain ⟨v1, vs1, d1, ds1, p1, q1, rfl, rfl, rfl, h1, r1⟩ := trodAll_cons r0
  obtain ⟨rfl, rfl, rfl⟩ := trodAll_nil r1
  obtain rfl : args = #[v0, v1] := by cases args; simp_all
  obtain ⟨a0, hv0⟩ := errVar_of hL
  have hV1 : DataW.TrodVars enc Tryd.prog W (fun _ => true) ["loop.example/g03005/impl.errNoRing"] gs q := hV
  obtain ⟨rfl, rfl⟩ := hV1.unique (errVars enc hv0 _)
  have k0 := h0
  have lt0 : ∀ x ∈ p0, x.block < W.heap.size := by obtain ⟨m, hm⟩ := k0; exact DataW.trod_lt m _ _ _ hm
  obtain ⟨fa0, fk0, fr0, fs0, fA0, fm0, fc0, fp0, rfl, wf0⟩ := open_feat (hval 0 42 v0 rfl rfl) h0
  have k1 := h1
  have lt1 : ∀ x ∈ p1, x.block < W.heap.size := by obtain ⟨m, hm⟩ := k1; exact DataW.trod_lt m _ _ _ hm
  obtain ⟨fa1, fk1, fr1, fs1, fA1, fm1, fc1, fp1, rfl, wf1⟩ := open_feat (hval 1 42 v1 rfl rfl) h1
  clear hA0 hval0
  refine (law_FnExactFeaturesMeet_laid W fa0 fk0 fr0 fs0 fA0 fm0 fc0 fp0 wf0 fa1 fk1 fr1 fs1 fA1 fm1 fc1 fp1 wf1 hL).mono fun e W' ⟨he, bel⟩ => ?_
  subst he
  exact ⟨_, rfl, _, _, _, [], _, _, hW', trodAll_mk1 (shut_bool Tryd.underlying4 _), (trodAll_cons_mk (Below.trod laidOut (by kernel_rfl) (of_decide_eq_true (by kernel_rfl)) k0 bel lt0) (trodAll_cons_mk (Below.trod laidOut (by kernel_rfl) (of_decide_eq_true (by kernel_rfl)) k1 bel lt1) trodAll_mk0)), errVars enc (errVar_below hv0 bel) _, bel.frame _, fun h => by cases h⟩

theorem over : Rows.fnExactFeaturesMeetRow.holds Tryd.pinned (OpenSpec.ofChange Rows.fnExactFeaturesMeetSpec) :=
  OpenClaim.holds_of_wide 7 Tryd.f7 rfl rfl rfl rfl rfl rfl rfl ⟨rfl, rfl, rfl, rfl, rfl⟩ rfl rfl rfl rfl rfl (by kernel_rfl) Tryd.func7 (by kernel_rfl)
    (of_decide_eq_true (by kernel_rfl)) (by unfold Func.isWrapper; first | (rw [if_pos (by decide +kernel)]; kernel_rfl) | (rw [if_neg (by decide +kernel)]; exact ⟨rfl, rfl⟩))
    (fun os started H enc _ => lifted os started H enc)

/-- THE STATEMENT. -/
theorem proved : Rows.FnExactFeaturesMeetCardSaid :=
  Claim7.holds_tied_plain_at .later [] [.sentinel] true (true, "0c1df87fee66ea7df00567f92dbc08ccfacd06d53b622fdf9cf6929ab31f35f8") true
    over (fun _ h => by cases h) (by kernel_rfl) (fun _ h => by cases h) fnExactFeaturesMeet_row_tie rfl ⟨rfl, rfl⟩ (by kernel_rfl) rfl
    (fun f fn hf hfn => by
      obtain rfl : f = 7 := Option.some.inj ((show Tryd.prog.funcNamed "loop.example/g03005/laws.FnExactFeaturesMeet" = some 7 by kernel_rfl).symm.trans hf) |>.symm
      obtain rfl : fn = Tryd.f7 := (Option.some.inj (Tryd.func7.symm.trans hfn)).symm
      exact ⟨by kernel_rfl, fun j t ht => by
        rw [Tryd.params7] at ht
        have hm : t ∈ [42, 42] := by simpa using Array.mem_of_getElem? ht
        have hall : ([42, 42].all fun u => !Tryd.prog.wantsStandIn u) = true := by kernel_rfl
        exact (show Tryd.prog.wantsStandIn t = false by simpa using List.all_eq_true.1 hall t hm)⟩)
    (by kernel_rfl)
#print axioms proved
end Go.Proofs.YtbnjaaegbmhopaaDoor.fnExactFeaturesMeet
end
