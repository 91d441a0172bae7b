/- slices.Grow of nothing and slices.Concat of two, at points; RotateRing of package impl. -/
import Derived.Test.YtbnjaaegbmhopaaGreatDoorShelf
import Derived.Test.YtbnjaaegbmhopaaGreatDoorHelpE
import Derived.Test.YtbnjaaegbmhopaaGreatDoorInt
namespace Go.Proofs.YtbnjaaegbmhopaaGreatDoor
open Go.ChangeShapes Go.WideShapes Go.ChangeAt Go.RowKit
set_option linter.unusedVariables false

/-- Grow of nothing: no points, with room. -/
theorem grow_any (n : Nat) (w : World) (hn : n ≤ 2199023255552) :
    Calls Tryz.prog 82 #[.slice none 0 0, .int .i64 n] w fun e w' => ∃ A c, e = .returned (.slice A 0 c) ∧ OwnE 2 encPoint w' w.heap.size 33 (.slice A 0 c) ([] : List (Int × Int)) ∧ Below w.heap.size w w' := by
  by_cases h0 : n = 0
  · subst h0
    refine (Any8.slices_Grow_room Tryz.growPt none 0 0 0 w (Nat.le_refl _) (by omega) (by omega) (by omega)).mono ?_
    rintro e w' ⟨rfl, rfl⟩
    exact ⟨none, 0, rfl, OwnE.nil _ _ _, Below.refl _ _⟩
  · obtain ⟨i, hi, hz, h1, h2⟩ := info_parts infoPoint
    refine (Any8.slices_Grow_grow Tryz.growPt i _ hi hz (by rw [h1]; decide) none 0 0 n [] w (Nat.le_refl _) (by omega) (by rw [h2]; omega) (by omega) (by simp) (fun _ => rfl) (fun a h => by cases h)).mono ?_
    rintro e w' ⟨he, hw⟩
    obtain ⟨G, hG⟩ : ∃ G, grownCap w (0 + n) 0 33 = G := ⟨_, rfl⟩
    have hge := grownCap_ge w (0 + n) 0 33
    have hle := grownCap_le_maxLen w (0 + n) 0 33 (by unfold maxLen; omega)
    change e = .returned (.slice (some ⟨w.heap.size, 0, none⟩) 0 (grownCap w (0 + n) 0 33)) at he
    change w' = w.drew.alloc (.cells (([] : List Value).toArray ++ Builtin.zeroCells (PtV 0 0).cells (0 + n - 0) ++ Builtin.zeroCells (PtV 0 0).cells (grownCap w (0 + n) 0 33 - (0 + n))) 33) at hw
    rw [hG] at hge hle he hw
    subst he hw
    refine ⟨_, _, rfl, ⟨by simp [cellsE], .inr ⟨w.heap.size, _, _, rfl, Nat.le_refl _, heap_alloc_new w.drew _, Nat.zero_le _, hle, ?_, by simp [cellsE]⟩⟩, (Below.refl _ w).drew.alloc (Nat.le_refl _) _⟩
    simp only [Array.size_append, size_zeroCells, List.size_toArray, List.length_nil]
    have hc : (PtV 0 0).cells.size = 2 := rfl
    rw [hc]; omega
/-- What is laid behind j of both. -/
def catV (l m : List (Int × Int)) (j : Nat) : List (Int × Int) := if j = 0 then [] else if j = 1 then l else l ++ m
def CatS (a b : Nat) (n i : Value) : Prop := (i = .int .i64 0 ∧ n = .int .i64 0) ∨ (i = .int .i64 1 ∧ n = .int .i64 (a : Int)) ∨ (i = .int .i64 2 ∧ n = .int .i64 ((a : Int) + b))
set_option maxRecDepth 100000 in
set_option maxHeartbeats 4000000 in
theorem concat_any (g : Nat) (A A' : Option Addr) (c c' : Nat) (l m : List (Int × Int)) (w : World) (h0 : w.cell? ⟨g, 0, none⟩ = some (.slice A l.length c)) (h1 : w.cell? ⟨g, 1, none⟩ = some (.slice A' m.length c'))
    (hs : SeesE 2 encPoint w w.heap.size A l) (hs' : SeesE 2 encPoint w w.heap.size A' m) (hl : l.length ≤ 549755813888) (hm : m.length ≤ 549755813888) :
    Calls Tryz.prog 49 #[.slice (some ⟨g, 0, none⟩) 2 2] w (GivesE 2 encPoint 33 (l ++ m) w) := by
  have HS := Lib.hid hs; clear hs
  have HS' := Lib.hid hs'; clear hs'
  have HM : Hid ((l ++ m).length = l.length + m.length) := Lib.hid (by simp)
  go_enter Tryz.func49, Tryz.ntmps49
  go_wp2
  go_loop [3, 11] (fun n i => CatS l.length m.length n i) (fun _ i => 2 - (intOf i).toNat)
  case atStart => exact .inl ⟨rfl, rfl⟩
  case round =>
    rcases hrel with ⟨rfl, rfl⟩ | ⟨rfl, rfl⟩ | ⟨rfl, rfl⟩
    · go_wp2
      go_round
      case rel => exact .inr (.inl ⟨rfl, by go_num⟩)
      case measure => simp [intOf]
    · go_wp2
      go_round
      case rel => exact .inr (.inr ⟨rfl, by go_num⟩)
      case measure => simp [intOf]
    · have e : (l.length : Int) + m.length = ((l.length + m.length : Nat) : Int) := by omega
      rw [e]
      obtain ⟨q, hq⟩ : ∃ q, l.length + m.length = q := ⟨_, rfl⟩
      have hq2 : q ≤ 1099511627776 := by omega
      rw [hq]
      have HQ := Lib.hid hq
      clear e hq
      go_wp2_with fail
      refine (grow_any q w (by omega)).mono ?_
      rintro e w1 ⟨A1, c1, rfl, ho1, hb1⟩
      have HO1 := Lib.hid ho1; have HB1 := Lib.hid hb1
      have HW := Lib.hid hb1.size
      have g0 := (hb1.cell (World.block_lt_of_cell? _ _ h0)).trans h0
      have g1 := (hb1.cell (World.block_lt_of_cell? _ _ h1)).trans h1
      have hgl := World.block_lt_of_cell? _ _ h0
      have H0 := Lib.hid h0; have H1 := Lib.hid h1
      clear ho1 hb1 h0 h1
      go_wp2
      go_loopw [6, 27] (fun v i wr => ∃ (j : Nat) (A2 : Option Addr) (c2 : Nat) (L : List (Int × Int)), j ≤ 2 ∧ i = .int .i64 j ∧ Hid (L = catV l m j) ∧ v = .slice A2 L.length c2 ∧ OwnE 2 encPoint wr w.heap.size 33 v L ∧ Below w.heap.size w wr) (fun _ i _ => 2 - (intOf i).toNat)
      case atStart => exact ⟨0, A1, c1, [], by omega, rfl, Lib.hid rfl, rfl, HO1.out, HB1.out⟩
      case round =>
        obtain ⟨j, A2, c2, L, hj, rfl, hL, rfl, ho, hb⟩ := hrel
        have k0 := (hb.cell (World.block_lt_of_cell? _ _ H0.out)).trans H0.out
        have k1 := (hb.cell (World.block_lt_of_cell? _ _ H1.out)).trans H1.out
        have HO := Lib.hid ho; have HB := Lib.hid hb
        clear ho hb g0 g1 HO1 HB1
        by_cases hj0 : j = 0
        · subst hj0
          have e0 : L.length = 0 := by rw [hL.out]; rfl
          go_wp2_with (at_builtin; refine appPoint _ rfl _ _ rfl w.heap.size _ L rfl HO.out w.heap.size A l.length c l rfl rfl (HS.out.below HB.out) (by omega) HB.out.size ?_; intro A3 c3 L3 w3 hL3 h2 h3 ho3 hb3)
          go_roundw
          case rel => exact ⟨1, A3, c3, L3, by omega, by go_num, Lib.hid (by rw [hL3.out, hL.out]; rfl), rfl, ho3, HB.out.trans hb3⟩
          case measure => simp [intOf]
        · by_cases hj1 : j = 1
          · subst hj1
            have e0 : L.length = l.length := by rw [hL.out]; rfl
            go_wp2_with (at_builtin; refine appPoint _ rfl _ _ rfl w.heap.size _ L rfl HO.out w.heap.size A' m.length c' m rfl rfl (HS'.out.below HB.out) (by omega) HB.out.size ?_; intro A3 c3 L3 w3 hL3 h2 h3 ho3 hb3)
            go_roundw
            case rel => exact ⟨2, A3, c3, L3, by omega, by go_num, Lib.hid (by rw [hL3.out, hL.out]; rfl), rfl, ho3, HB.out.trans hb3⟩
            case measure => simp [intOf]
          · obtain rfl : j = 2 := by omega
            go_wp2
            go_ret
            exact ⟨A2, c2, L, Lib.hid (by rw [hL.out]; rfl), rfl, HO.out, HB.out⟩
/-- The points from the k-th on, and then those before it; all of them, if there is no k-th. -/
def rotV (l : List (Int × Int)) (k : Int) : List (Int × Int) := if inB k 0 ((l.length : Int) - 1) = true then l.drop k.toNat ++ l.take k.toNat else l
theorem concat_at (g n1 n2 : Nat) (A A' : Option Addr) (c c' : Nat) (l m : List (Int × Int)) (w : World) (e1 : l.length = n1) (e2 : m.length = n2) (h0 : w.cell? ⟨g, 0, none⟩ = some (.slice A n1 c)) (h1 : w.cell? ⟨g, 1, none⟩ = some (.slice A' n2 c'))
    (hs : SeesE 2 encPoint w w.heap.size A l) (hs' : SeesE 2 encPoint w w.heap.size A' m) (hl : n1 ≤ 549755813888) (hm : n2 ≤ 549755813888) :
    Calls Tryz.prog 49 #[.slice (some ⟨g, 0, none⟩) 2 2] w (GivesE 2 encPoint 33 (l ++ m) w) := by
  subst e1 e2; exact concat_any g A A' c c' l m w h0 h1 hs hs' hl hm
set_option maxRecDepth 100000 in
set_option maxHeartbeats 4000000 in
theorem rotateRing_any (A : Option Addr) (c : Nat) (l : List (Int × Int)) (k : Int) (w : World) (hs : SeesE 2 encPoint w w.heap.size A l) (hl : l.length ≤ 274877906944) (hlc : l.length ≤ c) (hc : (c : Int) ≤ 9223372036854775807) (hk : (Lit.int .i64 k).wf = true) :
    Calls Tryz.prog 13 #[.slice A l.length c, .int .i64 k] w (GivesE 2 encPoint 33 (rotV l k) w) := by
  have HS := Lib.hid hs; clear hs
  go_enter Tryz.func13, Tryz.ntmps13
  cases hin : inB k 0 ((l.length : Int) - 1)
  · have h0c : ¬ ((c : Int) < 0) := by omega
    have h0l : ¬ ((l.length : Int) < 0) := by omega
    go_wp2_with (first
      | (go_at_call 48; refine (in_is _ _ _ _ _ hin).mono ?_; rintro e w1 ⟨rfl, rfl⟩))
    have HR : Hid (l ++ [] = rotV l k) := Lib.hid (by unfold rotV; rw [if_neg (by rw [hin]; decide), List.append_nil])
    go_region_held3 (fun _ => True) (trivial) (first | (go_at_call 49; refine (concat_at w.heap.size l.length 0 A A c c l [] _ rfl rfl (cell_of_row _ _ 0 _ _ (0, 0) (heap_alloc_new w _)) (cell_of_row _ _ 1 _ _ (0, 0) (heap_alloc_new w _)) (HS.out.alloc (Nat.le_refl _) _ |>.drew |>.mono (by simp)) SeesE.nil (by omega) (by omega)).mono ?_; rintro e w1 ⟨A1, c1, L, hL, rfl, ho1, hb1⟩; have HO1 := Lib.hid ho1; have HB1 := Lib.hid hb1; have HL := hL) | fail)
    all_goals
      go_wp2
      go_ret
      exact ⟨A1, c1, L, Lib.hid (by rw [HL.out, HR.out]), rfl, HO1.out.mono (by simp), ((Below.refl _ w).alloc (Nat.le_refl _) _).drew.trans (HB1.out.mono (by simp))⟩
  · have hk' : 0 ≤ k ∧ k ≤ (l.length : Int) - 1 := by simpa [inB] using hin
    obtain ⟨j, rfl⟩ : ∃ j : Nat, k = (j : Int) := ⟨k.toNat, by omega⟩
    have hjl : j < l.length := by omega
    have hjl' : (j : Int) ≤ (l.length : Int) := by omega
    have hjc' : (j : Int) ≤ (c : Int) := by omega
    go_wp2_with (first
      | (go_at_call 48; refine (in_is _ _ _ _ _ hin).mono ?_; rintro e w1 ⟨rfl, rfl⟩))
    have b1 : (0 : Int) ≤ (j : Int) := by omega
    have b2 : ¬ ((j : Int) < 0) := by omega
    have b3 : ¬ ((c : Int) < (j : Int)) := by omega
    have b4 : ¬ ((l.length : Int) < (j : Int)) := by omega
    have hlc' : ¬ (c = j) := by omega
    have HA : Hid (SeesE 2 encPoint w w.heap.size (if c = j then A else Option.map (fun x => x.add (j * 2)) A) (l.drop j)) := Lib.hid (HS.out.suf j _ (fun _ => if_neg hlc'))
    have HT : Hid (SeesE 2 encPoint w w.heap.size A (l.take j)) := Lib.hid (HS.out.pre j)
    have E1 : Hid ((l.drop j).length = l.length - j) := Lib.hid (by simp)
    have E2 : Hid ((l.take j).length = j) := Lib.hid (by simp; omega)
    have HR : Hid (l.drop j ++ l.take j = rotV l j) := Lib.hid (by unfold rotV; rw [if_pos hin]; simp)
    clear hlc'
    go_region_held3 (fun _ => True) (trivial) (first | (go_at_call 49; refine (concat_at w.heap.size (l.length - j) j _ A (c - j) c (l.drop j) (l.take j) _ E1.out E2.out (cell_of_row _ _ 0 _ _ (0, 0) (heap_alloc_new w _)) (cell_of_row _ _ 1 _ _ (0, 0) (heap_alloc_new w _)) (HA.out.alloc (Nat.le_refl _) _ |>.drew |>.mono (by simp)) (HT.out.alloc (Nat.le_refl _) _ |>.drew |>.mono (by simp)) (by omega) (by omega)).mono ?_; rintro e w1 ⟨A1, c1, L, hL, rfl, ho1, hb1⟩; have HO1 := Lib.hid ho1; have HB1 := Lib.hid hb1; have HL := hL) | fail)
    all_goals
      go_wp2
      go_ret
      exact ⟨A1, c1, L, Lib.hid (by rw [HL.out, HR.out]), rfl, HO1.out.mono (by simp), ((Below.refl _ w).alloc (Nat.le_refl _) _).drew.trans (HB1.out.mono (by simp))⟩
end Go.Proofs.YtbnjaaegbmhopaaGreatDoor
