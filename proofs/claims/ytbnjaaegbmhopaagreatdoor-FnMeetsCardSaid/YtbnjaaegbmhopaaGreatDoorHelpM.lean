/- The laws' marks over slices of structs, and the look at them. -/
import Derived.Test.YtbnjaaegbmhopaaGreatDoorHelpE
namespace Go.Proofs.YtbnjaaegbmhopaaGreatDoor
open Go.ChangeShapes Go.WideShapes Go.ChangeAt Go.RowKit
set_option linter.unusedVariables false

theorem growE_setCell {w w0 : World} {p : Nat} (hg : w0.grownBy w (some p)) (j : Nat) (v : Value) : w0.grownBy (w.setCell ⟨p, j, none⟩ v) (some p) :=
  ⟨hg.os, hg.tape, hg.output, Nat.le_trans hg.size (by simp [World.setCell]), fun k hk hne => (Below.heap_setCell _ _ _ _ (fun e => hne (by rw [e]))).trans (hg.block k hk hne)⟩
/-- What a mark lays at place j. -/
def mkAtPoint (k0 j : Nat) : Int × Int := (((k0 + j * 2 : Nat) : Int), ((k0 + j * 2 : Nat) : Int) + 1)
def mkPoint (k0 m : Nat) : List (Int × Int) := (List.range m).map (mkAtPoint k0)
theorem mkPoint_len (k0 m : Nat) : (mkPoint k0 m).length = m := by simp [mkPoint]
theorem mkPoint_get (k0 m i : Nat) (h : i < m) : (mkPoint k0 m)[i]? = some (mkAtPoint k0 i) := by simp [mkPoint, h]
def MarkPointRel (B : Nat) (A : Option Addr) (m c k0 : Nat) (w : World) (kk i : Value) (wr : World) : Prop :=
  ∃ (j : Nat) (L : List (Int × Int)), j ≤ m ∧ i = .int .i64 j ∧ kk = .int .i64 (k0 + j * 2 : Nat) ∧ L.length = m ∧ FillE (fun i => some (mkAtPoint k0 i)) j L ∧ OwnE 2 encPoint wr B 33 (.slice A m c) L ∧ w.grownBy wr (Value.ownBlock (.slice A m c))
set_option maxRecDepth 100000 in
theorem markPoint_any (A : Option Addr) (m c k0 B : Nat) (l : List (Int × Int)) (w : World) (hm : l.length = m) (ho : OwnE 2 encPoint w B 33 (.slice A m c) l) (hl : m ≤ 1099511627776) (hk : k0 ≤ 1099511627776) :
    Calls Tryz.prog 69 #[.slice A m c, .int .i64 k0] w fun e w' => e = .returned (.int .i64 (k0 + m * 2 : Nat)) ∧ OwnE 2 encPoint w' B 33 (.slice A m c) (mkPoint k0 m) ∧ w.grownBy w' (Value.ownBlock (.slice A m c)) := by
  have HO := Lib.hid ho; clear ho
  have HN := Lib.hid hm; clear hm
  go_enter Tryz.func69, Tryz.ntmps69
  go_wp2
  go_loopw [1, 5] (fun kk i wr => MarkPointRel B A m c k0 w kk i wr) (fun _ i _ => m - (intOf i).toNat)
  case atStart => exact ⟨0, l, Nat.zero_le _, rfl, by go_num, HN.out, FillE.zero _ _, HO.out, World.grownBy.refl _ _⟩
  case round =>
    obtain ⟨j, L, hj, rfl, rfl, hL, hf, ho, hg⟩ := hrel
    clear HO HN
    by_cases hlt : j < m
    · obtain ⟨g, rfl, hB, -, hr⟩ := ho.row (by omega)
      obtain ⟨⟨y0, y1⟩, hy⟩ : ∃ y, L[j]? = some y := ⟨_, List.getElem?_eq_getElem (by omega)⟩
      obtain ⟨c0, c1⟩ := rowCellsPoint hr hy
      obtain ⟨f0, f1⟩ := rowFrozenPoint hr j
      have HF := Lib.hid hf; clear hf
      have HR := Lib.hid hr; clear hr
      have HL := Lib.hid hL; clear hL
      have HG := Lib.hid hg; clear hg
      clear hy ho
      obtain ⟨K, hK⟩ : ∃ K : Int, ((k0 + j * 2 : Nat) : Int) = K := ⟨_, rfl⟩
      have hK0 : 0 ≤ K ∧ K ≤ 6597069766656 := by omega
      have hw1 : IntKind.i64.wrap (K + 1) = K + 1 := IntWalk.i64_in _ (by omega)
      have hw2 : IntKind.i64.wrap (K + 1 + 1) = K + 1 + 1 := IntWalk.i64_in _ (by omega)
      have HA : Hid (mkAtPoint k0 j = (K, K + 1)) := Lib.hid (by rw [← hK]; rfl)
      have HK : Hid (K + 2 = ((k0 + (j + 1) * 2 : Nat) : Int)) := Lib.hid (by omega)
      rw [hK]
      clear hK hK0
      go_wp2
      go_roundw
      case rel =>
        have h2 := (rowPoint_set HR.out (by rw [HL.out]; exact hlt) (K) (K + 1)).own elPoint hB
        rw [List.length_set, HL.out] at h2
        exact ⟨j + 1, _, by omega, by go_num, by rw [← HK.out]; go_num, by rw [List.length_set]; exact HL.out, HF.out.set (by rw [HL.out]; exact hlt) (congrArg some HA.out), h2, (growE_setCell (growE_setCell HG.out (j * 2) _) (j * 2 + 1) _)⟩
      case measure => simp [intOf]; omega
    · obtain rfl : j = m := by omega
      have HF := Lib.hid hf; clear hf
      have HO := Lib.hid ho; clear ho
      have HG := Lib.hid hg; clear hg
      have HL := Lib.hid hL; clear hL
      go_wp2
      go_ret
      have e : L = mkPoint k0 j := FillE.done (f := fun i => some (mkAtPoint k0 i)) (by rw [HL.out]; exact HF.out) (by rw [mkPoint_len]; exact HL.out.symm) (fun i hi => mkPoint_get _ _ _ (by rw [mkPoint_len] at hi; exact hi))
      have ho := HO.out
      rw [e] at ho
      exact ⟨rfl, ho, HG.out⟩
/-- The mark of a held row. -/
def MarkPointHeld (lo hi : Nat) (A : Option Addr) (m c k0 : Nat) (w : World) (e : Ending) (w' : World) : Prop :=
  ∃ q : Nat, Hid (q = k0 + m * 2) ∧ e = .returned (.int .i64 q) ∧ HeldE 2 encPoint w' lo hi 33 (.slice A m c) (mkPoint k0 m) ∧ w.grownBy w' (Value.ownBlock (.slice A m c))
theorem markPoint_held (A : Option Addr) (m c k0 lo hi : Nat) (l : List (Int × Int)) (w : World) (ho : HeldE 2 encPoint w lo hi 33 (.slice A m c) l) (hm : l.length = m) (hl : m ≤ 1099511627776) (hk : k0 ≤ 1099511627776) :
    Calls Tryz.prog 69 #[.slice A m c, .int .i64 k0] w (MarkPointHeld lo hi A m c k0 w) :=
  (markPoint_any A m c k0 lo l w hm ho.1 hl hk).mono fun e w' ⟨h1, h2, h3⟩ => ⟨_, Lib.hid rfl, h1, ⟨h2, ho.2.1, Nat.le_trans ho.2.2 h3.size⟩, h3⟩
/-- What a mark lays at place j. -/
def mkAtSegment (k0 j : Nat) : Int × Int × Int × Int := (((k0 + j * 4 : Nat) : Int), ((k0 + j * 4 : Nat) : Int) + 1, ((k0 + j * 4 : Nat) : Int) + 1 + 1, ((k0 + j * 4 : Nat) : Int) + 1 + 1 + 1)
def mkSegment (k0 m : Nat) : List (Int × Int × Int × Int) := (List.range m).map (mkAtSegment k0)
theorem mkSegment_len (k0 m : Nat) : (mkSegment k0 m).length = m := by simp [mkSegment]
theorem mkSegment_get (k0 m i : Nat) (h : i < m) : (mkSegment k0 m)[i]? = some (mkAtSegment k0 i) := by simp [mkSegment, h]
def MarkSegmentRel (B : Nat) (A : Option Addr) (m c k0 : Nat) (w : World) (kk i : Value) (wr : World) : Prop :=
  ∃ (j : Nat) (L : List (Int × Int × Int × Int)), j ≤ m ∧ i = .int .i64 j ∧ kk = .int .i64 (k0 + j * 4 : Nat) ∧ L.length = m ∧ FillE (fun i => some (mkAtSegment k0 i)) j L ∧ OwnE 4 encSegment wr B 78 (.slice A m c) L ∧ w.grownBy wr (Value.ownBlock (.slice A m c))
set_option maxRecDepth 100000 in
theorem markSegment_any (A : Option Addr) (m c k0 B : Nat) (l : List (Int × Int × Int × Int)) (w : World) (hm : l.length = m) (ho : OwnE 4 encSegment w B 78 (.slice A m c) l) (hl : m ≤ 1099511627776) (hk : k0 ≤ 1099511627776) :
    Calls Tryz.prog 32 #[.slice A m c, .int .i64 k0] w fun e w' => e = .returned (.int .i64 (k0 + m * 4 : Nat)) ∧ OwnE 4 encSegment w' B 78 (.slice A m c) (mkSegment k0 m) ∧ w.grownBy w' (Value.ownBlock (.slice A m c)) := by
  have HO := Lib.hid ho; clear ho
  have HN := Lib.hid hm; clear hm
  go_enter Tryz.func32, Tryz.ntmps32
  go_wp2
  go_loopw [1, 5] (fun kk i wr => MarkSegmentRel B A m c k0 w kk i wr) (fun _ i _ => m - (intOf i).toNat)
  case atStart => exact ⟨0, l, Nat.zero_le _, rfl, by go_num, HN.out, FillE.zero _ _, HO.out, World.grownBy.refl _ _⟩
  case round =>
    obtain ⟨j, L, hj, rfl, rfl, hL, hf, ho, hg⟩ := hrel
    clear HO HN
    by_cases hlt : j < m
    · obtain ⟨g, rfl, hB, -, hr⟩ := ho.row (by omega)
      obtain ⟨⟨y0, y1, y2, y3⟩, hy⟩ : ∃ y, L[j]? = some y := ⟨_, List.getElem?_eq_getElem (by omega)⟩
      obtain ⟨c0, c1, c2, c3⟩ := rowCellsSegment hr hy
      obtain ⟨f0, f1, f2, f3⟩ := rowFrozenSegment hr j
      have HF := Lib.hid hf; clear hf
      have HR := Lib.hid hr; clear hr
      have HL := Lib.hid hL; clear hL
      have HG := Lib.hid hg; clear hg
      clear hy ho
      obtain ⟨K, hK⟩ : ∃ K : Int, ((k0 + j * 4 : Nat) : Int) = K := ⟨_, rfl⟩
      have hK0 : 0 ≤ K ∧ K ≤ 6597069766656 := by omega
      have hw1 : IntKind.i64.wrap (K + 1) = K + 1 := IntWalk.i64_in _ (by omega)
      have hw2 : IntKind.i64.wrap (K + 1 + 1) = K + 1 + 1 := IntWalk.i64_in _ (by omega)
      have hw3 : IntKind.i64.wrap (K + 1 + 1 + 1) = K + 1 + 1 + 1 := IntWalk.i64_in _ (by omega)
      have hw4 : IntKind.i64.wrap (K + 1 + 1 + 1 + 1) = K + 1 + 1 + 1 + 1 := IntWalk.i64_in _ (by omega)
      have HA : Hid (mkAtSegment k0 j = (K, K + 1, K + 1 + 1, K + 1 + 1 + 1)) := Lib.hid (by rw [← hK]; rfl)
      have HK : Hid (K + 4 = ((k0 + (j + 1) * 4 : Nat) : Int)) := Lib.hid (by omega)
      rw [hK]
      clear hK hK0
      go_wp2
      go_roundw
      case rel =>
        have h2 := (rowSegment_set HR.out (by rw [HL.out]; exact hlt) (K) (K + 1) (K + 1 + 1) (K + 1 + 1 + 1)).own elSegment hB
        rw [List.length_set, HL.out] at h2
        exact ⟨j + 1, _, by omega, by go_num, by rw [← HK.out]; go_num, by rw [List.length_set]; exact HL.out, HF.out.set (by rw [HL.out]; exact hlt) (congrArg some HA.out), h2, (growE_setCell (growE_setCell (growE_setCell (growE_setCell HG.out (j * 4) _) (j * 4 + 1) _) (j * 4 + 2) _) (j * 4 + 3) _)⟩
      case measure => simp [intOf]; omega
    · obtain rfl : j = m := by omega
      have HF := Lib.hid hf; clear hf
      have HO := Lib.hid ho; clear ho
      have HG := Lib.hid hg; clear hg
      have HL := Lib.hid hL; clear hL
      go_wp2
      go_ret
      have e : L = mkSegment k0 j := FillE.done (f := fun i => some (mkAtSegment k0 i)) (by rw [HL.out]; exact HF.out) (by rw [mkSegment_len]; exact HL.out.symm) (fun i hi => mkSegment_get _ _ _ (by rw [mkSegment_len] at hi; exact hi))
      have ho := HO.out
      rw [e] at ho
      exact ⟨rfl, ho, HG.out⟩
/-- The mark of a held row. -/
def MarkSegmentHeld (lo hi : Nat) (A : Option Addr) (m c k0 : Nat) (w : World) (e : Ending) (w' : World) : Prop :=
  ∃ q : Nat, Hid (q = k0 + m * 4) ∧ e = .returned (.int .i64 q) ∧ HeldE 4 encSegment w' lo hi 78 (.slice A m c) (mkSegment k0 m) ∧ w.grownBy w' (Value.ownBlock (.slice A m c))
theorem markSegment_held (A : Option Addr) (m c k0 lo hi : Nat) (l : List (Int × Int × Int × Int)) (w : World) (ho : HeldE 4 encSegment w lo hi 78 (.slice A m c) l) (hm : l.length = m) (hl : m ≤ 1099511627776) (hk : k0 ≤ 1099511627776) :
    Calls Tryz.prog 32 #[.slice A m c, .int .i64 k0] w (MarkSegmentHeld lo hi A m c k0 w) :=
  (markSegment_any A m c k0 lo l w hm ho.1 hl hk).mono fun e w' ⟨h1, h2, h3⟩ => ⟨_, Lib.hid rfl, h1, ⟨h2, ho.2.1, Nat.le_trans ho.2.2 h3.size⟩, h3⟩
set_option maxRecDepth 100000 in
theorem heldSegment_any (A : Option Addr) (m c k0 B : Nat) (w : World) (hs : SeesE 4 encSegment w B A (mkSegment k0 m)) (hl : m ≤ 1099511627776) (hk : k0 ≤ 1099511627776) :
    Calls Tryz.prog 33 #[.slice A m c, .int .i64 k0] w fun e w' => e = .returned (.int .i64 (k0 + m * 4 : Nat)) ∧ w = w' := by
  have HS := Lib.hid hs; clear hs
  go_enter Tryz.func33, Tryz.ntmps33
  go_wp2
  go_loop [1, 5] (fun kk i => ∃ j : Nat, j ≤ m ∧ i = .int .i64 j ∧ kk = .int .i64 (k0 + j * 4 : Nat)) (fun _ i => m - (intOf i).toNat)
  case atStart => exact ⟨0, Nat.zero_le _, rfl, by go_num⟩
  case round =>
    obtain ⟨j, hj, rfl, rfl⟩ := hrel
    by_cases hlt : j < m
    · obtain ⟨b, off, rfl, hbl, -⟩ := HS.out j _ (mkSegment_get k0 m j hlt)
      obtain ⟨K, hK⟩ : ∃ K : Int, ((k0 + j * 4 : Nat) : Int) = K := ⟨_, rfl⟩
      have hx : (mkSegment k0 m)[j]? = some (K, K + 1, K + 1 + 1, K + 1 + 1 + 1) := by rw [mkSegment_get k0 m j hlt, ← hK]; rfl
      obtain ⟨c0, c1, c2, c3⟩ := cellsSegment HS.out hx
      have hK0 : 0 ≤ K ∧ K ≤ 6597069766656 := by omega
      have hw1 : IntKind.i64.wrap (K + 1) = K + 1 := IntWalk.i64_in _ (by omega)
      have hw2 : IntKind.i64.wrap (K + 1 + 1) = K + 1 + 1 := IntWalk.i64_in _ (by omega)
      have hw3 : IntKind.i64.wrap (K + 1 + 1 + 1) = K + 1 + 1 + 1 := IntWalk.i64_in _ (by omega)
      have hw4 : IntKind.i64.wrap (K + 1 + 1 + 1 + 1) = K + 1 + 1 + 1 + 1 := IntWalk.i64_in _ (by omega)
      have HK : Hid (K + 4 = ((k0 + (j + 1) * 4 : Nat) : Int)) := Lib.hid (by omega)
      rw [hK]
      clear hK hK0 hx
      go_wp2
      go_round
      case rel => exact ⟨j + 1, by omega, by go_num, by rw [← HK.out]; go_num⟩
      case measure => simp [intOf]; omega
    · obtain rfl : j = m := by omega
      go_wp2
      go_ret
      exact ⟨rfl, rfl⟩
/-- The marks are found again: the next number. -/
theorem heldSegment_q (A : Option Addr) (m c k0 B : Nat) (w : World) (hs : SeesE 4 encSegment w B A (mkSegment k0 m)) (hl : m ≤ 1099511627776) (hk : k0 ≤ 1099511627776) :
    Calls Tryz.prog 33 #[.slice A m c, .int .i64 k0] w fun e w' => ∃ q : Nat, Hid (q = k0 + m * 4) ∧ e = .returned (.int .i64 q) ∧ w = w' :=
  (heldSegment_any A m c k0 B w hs hl hk).mono fun e w' ⟨h1, h2⟩ => ⟨_, Lib.hid rfl, h1, h2⟩
/-- What a mark lays at place j. -/
def mkAtMeet (k0 j : Nat) : Int × Int × Int := (((k0 + j * 3 : Nat) : Int), ((k0 + j * 3 : Nat) : Int) + 1, ((k0 + j * 3 : Nat) : Int) + 1 + 1)
def mkMeet (k0 m : Nat) : List (Int × Int × Int) := (List.range m).map (mkAtMeet k0)
theorem mkMeet_len (k0 m : Nat) : (mkMeet k0 m).length = m := by simp [mkMeet]
theorem mkMeet_get (k0 m i : Nat) (h : i < m) : (mkMeet k0 m)[i]? = some (mkAtMeet k0 i) := by simp [mkMeet, h]
def MarkMeetRel (B : Nat) (A : Option Addr) (m c k0 : Nat) (w : World) (kk i : Value) (wr : World) : Prop :=
  ∃ (j : Nat) (L : List (Int × Int × Int)), j ≤ m ∧ i = .int .i64 j ∧ kk = .int .i64 (k0 + j * 3 : Nat) ∧ L.length = m ∧ FillE (fun i => some (mkAtMeet k0 i)) j L ∧ OwnE 3 encMeet wr B 93 (.slice A m c) L ∧ w.grownBy wr (Value.ownBlock (.slice A m c))
set_option maxRecDepth 100000 in
theorem markMeet_any (A : Option Addr) (m c k0 B : Nat) (l : List (Int × Int × Int)) (w : World) (hm : l.length = m) (ho : OwnE 3 encMeet w B 93 (.slice A m c) l) (hl : m ≤ 1099511627776) (hk : k0 ≤ 1099511627776) :
    Calls Tryz.prog 40 #[.slice A m c, .int .i64 k0] w fun e w' => e = .returned (.int .i64 (k0 + m * 3 : Nat)) ∧ OwnE 3 encMeet w' B 93 (.slice A m c) (mkMeet k0 m) ∧ w.grownBy w' (Value.ownBlock (.slice A m c)) := by
  have HO := Lib.hid ho; clear ho
  have HN := Lib.hid hm; clear hm
  go_enter Tryz.func40, Tryz.ntmps40
  go_wp2
  go_loopw [1, 5] (fun kk i wr => MarkMeetRel B A m c k0 w kk i wr) (fun _ i _ => m - (intOf i).toNat)
  case atStart => exact ⟨0, l, Nat.zero_le _, rfl, by go_num, HN.out, FillE.zero _ _, HO.out, World.grownBy.refl _ _⟩
  case round =>
    obtain ⟨j, L, hj, rfl, rfl, hL, hf, ho, hg⟩ := hrel
    clear HO HN
    by_cases hlt : j < m
    · obtain ⟨g, rfl, hB, -, hr⟩ := ho.row (by omega)
      obtain ⟨⟨y0, y1, y2⟩, hy⟩ : ∃ y, L[j]? = some y := ⟨_, List.getElem?_eq_getElem (by omega)⟩
      obtain ⟨c0, c1, c2⟩ := rowCellsMeet hr hy
      obtain ⟨f0, f1, f2⟩ := rowFrozenMeet hr j
      have HF := Lib.hid hf; clear hf
      have HR := Lib.hid hr; clear hr
      have HL := Lib.hid hL; clear hL
      have HG := Lib.hid hg; clear hg
      clear hy ho
      obtain ⟨K, hK⟩ : ∃ K : Int, ((k0 + j * 3 : Nat) : Int) = K := ⟨_, rfl⟩
      have hK0 : 0 ≤ K ∧ K ≤ 6597069766656 := by omega
      have hw1 : IntKind.i64.wrap (K + 1) = K + 1 := IntWalk.i64_in _ (by omega)
      have hw2 : IntKind.i64.wrap (K + 1 + 1) = K + 1 + 1 := IntWalk.i64_in _ (by omega)
      have hw3 : IntKind.i64.wrap (K + 1 + 1 + 1) = K + 1 + 1 + 1 := IntWalk.i64_in _ (by omega)
      have HA : Hid (mkAtMeet k0 j = (K, K + 1, K + 1 + 1)) := Lib.hid (by rw [← hK]; rfl)
      have HK : Hid (K + 3 = ((k0 + (j + 1) * 3 : Nat) : Int)) := Lib.hid (by omega)
      rw [hK]
      clear hK hK0
      go_wp2
      go_roundw
      case rel =>
        have h2 := (rowMeet_set HR.out (by rw [HL.out]; exact hlt) (K) (K + 1) (K + 1 + 1)).own elMeet hB
        rw [List.length_set, HL.out] at h2
        exact ⟨j + 1, _, by omega, by go_num, by rw [← HK.out]; go_num, by rw [List.length_set]; exact HL.out, HF.out.set (by rw [HL.out]; exact hlt) (congrArg some HA.out), h2, (growE_setCell (growE_setCell (growE_setCell HG.out (j * 3) _) (j * 3 + 1) _) (j * 3 + 2) _)⟩
      case measure => simp [intOf]; omega
    · obtain rfl : j = m := by omega
      have HF := Lib.hid hf; clear hf
      have HO := Lib.hid ho; clear ho
      have HG := Lib.hid hg; clear hg
      have HL := Lib.hid hL; clear hL
      go_wp2
      go_ret
      have e : L = mkMeet k0 j := FillE.done (f := fun i => some (mkAtMeet k0 i)) (by rw [HL.out]; exact HF.out) (by rw [mkMeet_len]; exact HL.out.symm) (fun i hi => mkMeet_get _ _ _ (by rw [mkMeet_len] at hi; exact hi))
      have ho := HO.out
      rw [e] at ho
      exact ⟨rfl, ho, HG.out⟩
/-- The mark of a held row. -/
def MarkMeetHeld (lo hi : Nat) (A : Option Addr) (m c k0 : Nat) (w : World) (e : Ending) (w' : World) : Prop :=
  ∃ q : Nat, Hid (q = k0 + m * 3) ∧ e = .returned (.int .i64 q) ∧ HeldE 3 encMeet w' lo hi 93 (.slice A m c) (mkMeet k0 m) ∧ w.grownBy w' (Value.ownBlock (.slice A m c))
theorem markMeet_held (A : Option Addr) (m c k0 lo hi : Nat) (l : List (Int × Int × Int)) (w : World) (ho : HeldE 3 encMeet w lo hi 93 (.slice A m c) l) (hm : l.length = m) (hl : m ≤ 1099511627776) (hk : k0 ≤ 1099511627776) :
    Calls Tryz.prog 40 #[.slice A m c, .int .i64 k0] w (MarkMeetHeld lo hi A m c k0 w) :=
  (markMeet_any A m c k0 lo l w hm ho.1 hl hk).mono fun e w' ⟨h1, h2, h3⟩ => ⟨_, Lib.hid rfl, h1, ⟨h2, ho.2.1, Nat.le_trans ho.2.2 h3.size⟩, h3⟩
set_option maxRecDepth 100000 in
theorem heldMeet_any (A : Option Addr) (m c k0 B : Nat) (w : World) (hs : SeesE 3 encMeet w B A (mkMeet k0 m)) (hl : m ≤ 1099511627776) (hk : k0 ≤ 1099511627776) :
    Calls Tryz.prog 41 #[.slice A m c, .int .i64 k0] w fun e w' => e = .returned (.int .i64 (k0 + m * 3 : Nat)) ∧ w = w' := by
  have HS := Lib.hid hs; clear hs
  go_enter Tryz.func41, Tryz.ntmps41
  go_wp2
  go_loop [1, 5] (fun kk i => ∃ j : Nat, j ≤ m ∧ i = .int .i64 j ∧ kk = .int .i64 (k0 + j * 3 : Nat)) (fun _ i => m - (intOf i).toNat)
  case atStart => exact ⟨0, Nat.zero_le _, rfl, by go_num⟩
  case round =>
    obtain ⟨j, hj, rfl, rfl⟩ := hrel
    by_cases hlt : j < m
    · obtain ⟨b, off, rfl, hbl, -⟩ := HS.out j _ (mkMeet_get k0 m j hlt)
      obtain ⟨K, hK⟩ : ∃ K : Int, ((k0 + j * 3 : Nat) : Int) = K := ⟨_, rfl⟩
      have hx : (mkMeet k0 m)[j]? = some (K, K + 1, K + 1 + 1) := by rw [mkMeet_get k0 m j hlt, ← hK]; rfl
      obtain ⟨c0, c1, c2⟩ := cellsMeet HS.out hx
      have hK0 : 0 ≤ K ∧ K ≤ 6597069766656 := by omega
      have hw1 : IntKind.i64.wrap (K + 1) = K + 1 := IntWalk.i64_in _ (by omega)
      have hw2 : IntKind.i64.wrap (K + 1 + 1) = K + 1 + 1 := IntWalk.i64_in _ (by omega)
      have hw3 : IntKind.i64.wrap (K + 1 + 1 + 1) = K + 1 + 1 + 1 := IntWalk.i64_in _ (by omega)
      have HK : Hid (K + 3 = ((k0 + (j + 1) * 3 : Nat) : Int)) := Lib.hid (by omega)
      rw [hK]
      clear hK hK0 hx
      go_wp2
      go_round
      case rel => exact ⟨j + 1, by omega, by go_num, by rw [← HK.out]; go_num⟩
      case measure => simp [intOf]; omega
    · obtain rfl : j = m := by omega
      go_wp2
      go_ret
      exact ⟨rfl, rfl⟩
/-- The marks are found again: the next number. -/
theorem heldMeet_q (A : Option Addr) (m c k0 B : Nat) (w : World) (hs : SeesE 3 encMeet w B A (mkMeet k0 m)) (hl : m ≤ 1099511627776) (hk : k0 ≤ 1099511627776) :
    Calls Tryz.prog 41 #[.slice A m c, .int .i64 k0] w fun e w' => ∃ q : Nat, Hid (q = k0 + m * 3) ∧ e = .returned (.int .i64 q) ∧ w = w' :=
  (heldMeet_any A m c k0 B w hs hl hk).mono fun e w' ⟨h1, h2⟩ => ⟨_, Lib.hid rfl, h1, h2⟩
end Go.Proofs.YtbnjaaegbmhopaaGreatDoor
