/- For every source, MeetsOf of package impl gives what the model gives, in memory of its own, and leaves its argument as it was. -/
import Derived.Test.YtbnjaaegbmhopaaGreatDoorHelpE
import Derived.Test.YtbnjaaegbmhopaaGreatDoorInt
import Derived.Lib.Hide
import Derived.Laws.IdiomStrings
import Derived.Laws.Concat
import Derived.WalkLawsBesides
import Derived.WalkSpells
import Derived.Test.YtbnjaaegbmhopaaGreatDoorFnExactMeetsOfB1
import Derived.Test.YtbnjaaegbmhopaaGreatDoorOneVar
import Derived.Test.YtbnjaaegbmhopaaGreatDoorPoint
import Derived.Lib.SmallJoins
import Derived.OpenShut
import Derived.ChangeArms
import Derived.ChangeSame
import Derived.ShutString
import Derived.Test.YtbnjaaegbmhopaaGreatDoorRows
import Derived.Test.YtbnjaaegbmhopaaGreatDoorTie
import Derived.Test.YtbnjaaegbmhopaaGreatDoorCards
import Derived.WalkKit
import Derived.ProofKit
import Derived.LaidMore
import Derived.SizedLaws
import Derived.Stop.Joined
import Derived.SevenTiedAt
import Derived.Below
section
/- The laws' marks over slices of structs, and the look at them. -/
namespace Go.Proofs.YtbnjaaegbmhopaaGreatDoor
open Go.ChangeShapes Go.WideShapes Go.ChangeAt Go.RowKit
set_option linter.unusedVariables false

theorem growE_setCell {w w0 : World} {p : Nat} (hg : w0.grownBy w (some p)) (j : Nat) (v : Value) : w0.grownBy (w.setCell ⟨p, j, none⟩ v) (some p) :=
  ⟨hg.os, hg.tape, hg.output, Nat.le_trans hg.size (by simp [World.setCell]), fun k hk hne => (Below.heap_setCell _ _ _ _ (fun e => hne (by rw [e]))).trans (hg.block k hk hne)⟩
/-- What a mark lays at place j. -/
def mkAtPoint (k0 j : Nat) : Int × Int := (((k0 + j * 2 : Nat) : Int), ((k0 + j * 2 : Nat) : Int) + 1)
def mkPoint (k0 m : Nat) : List (Int × Int) := (List.range m).map (mkAtPoint k0)
theorem mkPoint_len (k0 m : Nat) : (mkPoint k0 m).length = m := by simp [mkPoint]
theorem mkPoint_get (k0 m i : Nat) (h : i < m) : (mkPoint k0 m)[i]? = some (mkAtPoint k0 i) := by simp [mkPoint, h]
def MarkPointRel (B : Nat) (A : Option Addr) (m c k0 : Nat) (w : World) (kk i : Value) (wr : World) : Prop :=
  ∃ (j : Nat) (L : List (Int × Int)), j ≤ m ∧ i = .int .i64 j ∧ kk = .int .i64 (k0 + j * 2 : Nat) ∧ L.length = m ∧ FillE (fun i => some (mkAtPoint k0 i)) j L ∧ OwnE 2 encPoint wr B 33 (.slice A m c) L ∧ w.grownBy wr (Value.ownBlock (.slice A m c))
set_option maxRecDepth 100000 in
theorem markPoint_any (A : Option Addr) (m c k0 B : Nat) (l : List (Int × Int)) (w : World) (hm : l.length = m) (ho : OwnE 2 encPoint w B 33 (.slice A m c) l) (hl : m ≤ 1099511627776) (hk : k0 ≤ 1099511627776) :
    Calls Tryz.prog 69 #[.slice A m c, .int .i64 k0] w fun e w' => e = .returned (.int .i64 (k0 + m * 2 : Nat)) ∧ OwnE 2 encPoint w' B 33 (.slice A m c) (mkPoint k0 m) ∧ w.grownBy w' (Value.ownBlock (.slice A m c)) := by
  have HO := Lib.hid ho; clear ho
  have HN := Lib.hid hm; clear hm
  go_enter Tryz.func69, Tryz.ntmps69
  go_wp2
  go_loopw [1, 5] (fun kk i wr => MarkPointRel B A m c k0 w kk i wr) (fun _ i _ => m - (intOf i).toNat)
  case atStart => exact ⟨0, l, Nat.zero_le _, rfl, by go_num, HN.out, FillE.zero _ _, HO.out, World.grownBy.refl _ _⟩
  case round =>
    obtain ⟨j, L, hj, rfl, rfl, hL, hf, ho, hg⟩ := hrel
    clear HO HN
    by_cases hlt : j < m
    · obtain ⟨g, rfl, hB, -, hr⟩ := ho.row (by omega)
      obtain ⟨⟨y0, y1⟩, hy⟩ : ∃ y, L[j]? = some y := ⟨_, List.getElem?_eq_getElem (by omega)⟩
      obtain ⟨c0, c1⟩ := rowCellsPoint hr hy
      obtain ⟨f0, f1⟩ := rowFrozenPoint hr j
      have HF := Lib.hid hf; clear hf
      have HR := Lib.hid hr; clear hr
      have HL := Lib.hid hL; clear hL
      have HG := Lib.hid hg; clear hg
      clear hy ho
      obtain ⟨K, hK⟩ : ∃ K : Int, ((k0 + j * 2 : Nat) : Int) = K := ⟨_, rfl⟩
      have hK0 : 0 ≤ K ∧ K ≤ 6597069766656 := by omega
      have hw1 : IntKind.i64.wrap (K + 1) = K + 1 := IntWalk.i64_in _ (by omega)
      have hw2 : IntKind.i64.wrap (K + 1 + 1) = K + 1 + 1 := IntWalk.i64_in _ (by omega)
      have HA : Hid (mkAtPoint k0 j = (K, K + 1)) := Lib.hid (by rw [← hK]; rfl)
      have HK : Hid (K + 2 = ((k0 + (j + 1) * 2 : Nat) : Int)) := Lib.hid (by omega)
      rw [hK]
      clear hK hK0
      go_wp2
      go_roundw
      case rel =>
        have h2 := (rowPoint_set HR.out (by rw [HL.out]; exact hlt) (K) (K + 1)).own elPoint hB
        rw [List.length_set, HL.out] at h2
        exact ⟨j + 1, _, by omega, by go_num, by rw [← HK.out]; go_num, by rw [List.length_set]; exact HL.out, HF.out.set (by rw [HL.out]; exact hlt) (congrArg some HA.out), h2, (growE_setCell (growE_setCell HG.out (j * 2) _) (j * 2 + 1) _)⟩
      case measure => simp [intOf]; omega
    · obtain rfl : j = m := by omega
      have HF := Lib.hid hf; clear hf
      have HO := Lib.hid ho; clear ho
      have HG := Lib.hid hg; clear hg
      have HL := Lib.hid hL; clear hL
      go_wp2
      go_ret
      have e : L = mkPoint k0 j := FillE.done (f := fun i => some (mkAtPoint k0 i)) (by rw [HL.out]; exact HF.out) (by rw [mkPoint_len]; exact HL.out.symm) (fun i hi => mkPoint_get _ _ _ (by rw [mkPoint_len] at hi; exact hi))
      have ho := HO.out
      rw [e] at ho
      exact ⟨rfl, ho, HG.out⟩
/-- The mark of a held row. -/
def MarkPointHeld (lo hi : Nat) (A : Option Addr) (m c k0 : Nat) (w : World) (e : Ending) (w' : World) : Prop :=
  ∃ q : Nat, Hid (q = k0 + m * 2) ∧ e = .returned (.int .i64 q) ∧ HeldE 2 encPoint w' lo hi 33 (.slice A m c) (mkPoint k0 m) ∧ w.grownBy w' (Value.ownBlock (.slice A m c))
theorem markPoint_held (A : Option Addr) (m c k0 lo hi : Nat) (l : List (Int × Int)) (w : World) (ho : HeldE 2 encPoint w lo hi 33 (.slice A m c) l) (hm : l.length = m) (hl : m ≤ 1099511627776) (hk : k0 ≤ 1099511627776) :
    Calls Tryz.prog 69 #[.slice A m c, .int .i64 k0] w (MarkPointHeld lo hi A m c k0 w) :=
  (markPoint_any A m c k0 lo l w hm ho.1 hl hk).mono fun e w' ⟨h1, h2, h3⟩ => ⟨_, Lib.hid rfl, h1, ⟨h2, ho.2.1, Nat.le_trans ho.2.2 h3.size⟩, h3⟩
/-- What a mark lays at place j. -/
def mkAtSegment (k0 j : Nat) : Int × Int × Int × Int := (((k0 + j * 4 : Nat) : Int), ((k0 + j * 4 : Nat) : Int) + 1, ((k0 + j * 4 : Nat) : Int) + 1 + 1, ((k0 + j * 4 : Nat) : Int) + 1 + 1 + 1)
def mkSegment (k0 m : Nat) : List (Int × Int × Int × Int) := (List.range m).map (mkAtSegment k0)
theorem mkSegment_len (k0 m : Nat) : (mkSegment k0 m).length = m := by simp [mkSegment]
theorem mkSegment_get (k0 m i : Nat) (h : i < m) : (mkSegment k0 m)[i]? = some (mkAtSegment k0 i) := by simp [mkSegment, h]
def MarkSegmentRel (B : Nat) (A : Option Addr) (m c k0 : Nat) (w : World) (kk i : Value) (wr : World) : Prop :=
  ∃ (j : Nat) (L : List (Int × Int × Int × Int)), j ≤ m ∧ i = .int .i64 j ∧ kk = .int .i64 (k0 + j * 4 : Nat) ∧ L.length = m ∧ FillE (fun i => some (mkAtSegment k0 i)) j L ∧ OwnE 4 encSegment wr B 78 (.slice A m c) L ∧ w.grownBy wr (Value.ownBlock (.slice A m c))
set_option maxRecDepth 100000 in
theorem markSegment_any (A : Option Addr) (m c k0 B : Nat) (l : List (Int × Int × Int × Int)) (w : World) (hm : l.length = m) (ho : OwnE 4 encSegment w B 78 (.slice A m c) l) (hl : m ≤ 1099511627776) (hk : k0 ≤ 1099511627776) :
    Calls Tryz.prog 32 #[.slice A m c, .int .i64 k0] w fun e w' => e = .returned (.int .i64 (k0 + m * 4 : Nat)) ∧ OwnE 4 encSegment w' B 78 (.slice A m c) (mkSegment k0 m) ∧ w.grownBy w' (Value.ownBlock (.slice A m c)) := by
  have HO := Lib.hid ho; clear ho
  have HN := Lib.hid hm; clear hm
  go_enter Tryz.func32, Tryz.ntmps32
  go_wp2
  go_loopw [1, 5] (fun kk i wr => MarkSegmentRel B A m c k0 w kk i wr) (fun _ i _ => m - (intOf i).toNat)
  case atStart => exact ⟨0, l, Nat.zero_le _, rfl, by go_num, HN.out, FillE.zero _ _, HO.out, World.grownBy.refl _ _⟩
  case round =>
    obtain ⟨j, L, hj, rfl, rfl, hL, hf, ho, hg⟩ := hrel
    clear HO HN
    by_cases hlt : j < m
    · obtain ⟨g, rfl, hB, -, hr⟩ := ho.row (by omega)
      obtain ⟨⟨y0, y1, y2, y3⟩, hy⟩ : ∃ y, L[j]? = some y := ⟨_, List.getElem?_eq_getElem (by omega)⟩
      obtain ⟨c0, c1, c2, c3⟩ := rowCellsSegment hr hy
      obtain ⟨f0, f1, f2, f3⟩ := rowFrozenSegment hr j
      have HF := Lib.hid hf; clear hf
      have HR := Lib.hid hr; clear hr
      have HL := Lib.hid hL; clear hL
      have HG := Lib.hid hg; clear hg
      clear hy ho
      obtain ⟨K, hK⟩ : ∃ K : Int, ((k0 + j * 4 : Nat) : Int) = K := ⟨_, rfl⟩
      have hK0 : 0 ≤ K ∧ K ≤ 6597069766656 := by omega
      have hw1 : IntKind.i64.wrap (K + 1) = K + 1 := IntWalk.i64_in _ (by omega)
      have hw2 : IntKind.i64.wrap (K + 1 + 1) = K + 1 + 1 := IntWalk.i64_in _ (by omega)
      have hw3 : IntKind.i64.wrap (K + 1 + 1 + 1) = K + 1 + 1 + 1 := IntWalk.i64_in _ (by omega)
      have hw4 : IntKind.i64.wrap (K + 1 + 1 + 1 + 1) = K + 1 + 1 + 1 + 1 := IntWalk.i64_in _ (by omega)
      have HA : Hid (mkAtSegment k0 j = (K, K + 1, K + 1 + 1, K + 1 + 1 + 1)) := Lib.hid (by rw [← hK]; rfl)
      have HK : Hid (K + 4 = ((k0 + (j + 1) * 4 : Nat) : Int)) := Lib.hid (by omega)
      rw [hK]
      clear hK hK0
      go_wp2
      go_roundw
      case rel =>
        have h2 := (rowSegment_set HR.out (by rw [HL.out]; exact hlt) (K) (K + 1) (K + 1 + 1) (K + 1 + 1 + 1)).own elSegment hB
        rw [List.length_set, HL.out] at h2
        exact ⟨j + 1, _, by omega, by go_num, by rw [← HK.out]; go_num, by rw [List.length_set]; exact HL.out, HF.out.set (by rw [HL.out]; exact hlt) (congrArg some HA.out), h2, (growE_setCell (growE_setCell (growE_setCell (growE_setCell HG.out (j * 4) _) (j * 4 + 1) _) (j * 4 + 2) _) (j * 4 + 3) _)⟩
      case measure => simp [intOf]; omega
    · obtain rfl : j = m := by omega
      have HF := Lib.hid hf; clear hf
      have HO := Lib.hid ho; clear ho
      have HG := Lib.hid hg; clear hg
      have HL := Lib.hid hL; clear hL
      go_wp2
      go_ret
      have e : L = mkSegment k0 j := FillE.done (f := fun i => some (mkAtSegment k0 i)) (by rw [HL.out]; exact HF.out) (by rw [mkSegment_len]; exact HL.out.symm) (fun i hi => mkSegment_get _ _ _ (by rw [mkSegment_len] at hi; exact hi))
      have ho := HO.out
      rw [e] at ho
      exact ⟨rfl, ho, HG.out⟩
/-- The mark of a held row. -/
def MarkSegmentHeld (lo hi : Nat) (A : Option Addr) (m c k0 : Nat) (w : World) (e : Ending) (w' : World) : Prop :=
  ∃ q : Nat, Hid (q = k0 + m * 4) ∧ e = .returned (.int .i64 q) ∧ HeldE 4 encSegment w' lo hi 78 (.slice A m c) (mkSegment k0 m) ∧ w.grownBy w' (Value.ownBlock (.slice A m c))
theorem markSegment_held (A : Option Addr) (m c k0 lo hi : Nat) (l : List (Int × Int × Int × Int)) (w : World) (ho : HeldE 4 encSegment w lo hi 78 (.slice A m c) l) (hm : l.length = m) (hl : m ≤ 1099511627776) (hk : k0 ≤ 1099511627776) :
    Calls Tryz.prog 32 #[.slice A m c, .int .i64 k0] w (MarkSegmentHeld lo hi A m c k0 w) :=
  (markSegment_any A m c k0 lo l w hm ho.1 hl hk).mono fun e w' ⟨h1, h2, h3⟩ => ⟨_, Lib.hid rfl, h1, ⟨h2, ho.2.1, Nat.le_trans ho.2.2 h3.size⟩, h3⟩
set_option maxRecDepth 100000 in
theorem heldSegment_any (A : Option Addr) (m c k0 B : Nat) (w : World) (hs : SeesE 4 encSegment w B A (mkSegment k0 m)) (hl : m ≤ 1099511627776) (hk : k0 ≤ 1099511627776) :
    Calls Tryz.prog 33 #[.slice A m c, .int .i64 k0] w fun e w' => e = .returned (.int .i64 (k0 + m * 4 : Nat)) ∧ w = w' := by
  have HS := Lib.hid hs; clear hs
  go_enter Tryz.func33, Tryz.ntmps33
  go_wp2
  go_loop [1, 5] (fun kk i => ∃ j : Nat, j ≤ m ∧ i = .int .i64 j ∧ kk = .int .i64 (k0 + j * 4 : Nat)) (fun _ i => m - (intOf i).toNat)
  case atStart => exact ⟨0, Nat.zero_le _, rfl, by go_num⟩
  case round =>
    obtain ⟨j, hj, rfl, rfl⟩ := hrel
    by_cases hlt : j < m
    · obtain ⟨b, off, rfl, hbl, -⟩ := HS.out j _ (mkSegment_get k0 m j hlt)
      obtain ⟨K, hK⟩ : ∃ K : Int, ((k0 + j * 4 : Nat) : Int) = K := ⟨_, rfl⟩
      have hx : (mkSegment k0 m)[j]? = some (K, K + 1, K + 1 + 1, K + 1 + 1 + 1) := by rw [mkSegment_get k0 m j hlt, ← hK]; rfl
      obtain ⟨c0, c1, c2, c3⟩ := cellsSegment HS.out hx
      have hK0 : 0 ≤ K ∧ K ≤ 6597069766656 := by omega
      have hw1 : IntKind.i64.wrap (K + 1) = K + 1 := IntWalk.i64_in _ (by omega)
      have hw2 : IntKind.i64.wrap (K + 1 + 1) = K + 1 + 1 := IntWalk.i64_in _ (by omega)
      have hw3 : IntKind.i64.wrap (K + 1 + 1 + 1) = K + 1 + 1 + 1 := IntWalk.i64_in _ (by omega)
      have hw4 : IntKind.i64.wrap (K + 1 + 1 + 1 + 1) = K + 1 + 1 + 1 + 1 := IntWalk.i64_in _ (by omega)
      have HK : Hid (K + 4 = ((k0 + (j + 1) * 4 : Nat) : Int)) := Lib.hid (by omega)
      rw [hK]
      clear hK hK0 hx
      go_wp2
      go_round
      case rel => exact ⟨j + 1, by omega, by go_num, by rw [← HK.out]; go_num⟩
      case measure => simp [intOf]; omega
    · obtain rfl : j = m := by omega
      go_wp2
      go_ret
      exact ⟨rfl, rfl⟩
/-- The marks are found again: the next number. -/
theorem heldSegment_q (A : Option Addr) (m c k0 B : Nat) (w : World) (hs : SeesE 4 encSegment w B A (mkSegment k0 m)) (hl : m ≤ 1099511627776) (hk : k0 ≤ 1099511627776) :
    Calls Tryz.prog 33 #[.slice A m c, .int .i64 k0] w fun e w' => ∃ q : Nat, Hid (q = k0 + m * 4) ∧ e = .returned (.int .i64 q) ∧ w = w' :=
  (heldSegment_any A m c k0 B w hs hl hk).mono fun e w' ⟨h1, h2⟩ => ⟨_, Lib.hid rfl, h1, h2⟩
/-- What a mark lays at place j. -/
def mkAtMeet (k0 j : Nat) : Int × Int × Int := (((k0 + j * 3 : Nat) : Int), ((k0 + j * 3 : Nat) : Int) + 1, ((k0 + j * 3 : Nat) : Int) + 1 + 1)
def mkMeet (k0 m : Nat) : List (Int × Int × Int) := (List.range m).map (mkAtMeet k0)
theorem mkMeet_len (k0 m : Nat) : (mkMeet k0 m).length = m := by simp [mkMeet]
theorem mkMeet_get (k0 m i : Nat) (h : i < m) : (mkMeet k0 m)[i]? = some (mkAtMeet k0 i) := by simp [mkMeet, h]
def MarkMeetRel (B : Nat) (A : Option Addr) (m c k0 : Nat) (w : World) (kk i : Value) (wr : World) : Prop :=
  ∃ (j : Nat) (L : List (Int × Int × Int)), j ≤ m ∧ i = .int .i64 j ∧ kk = .int .i64 (k0 + j * 3 : Nat) ∧ L.length = m ∧ FillE (fun i => some (mkAtMeet k0 i)) j L ∧ OwnE 3 encMeet wr B 93 (.slice A m c) L ∧ w.grownBy wr (Value.ownBlock (.slice A m c))
set_option maxRecDepth 100000 in
theorem markMeet_any (A : Option Addr) (m c k0 B : Nat) (l : List (Int × Int × Int)) (w : World) (hm : l.length = m) (ho : OwnE 3 encMeet w B 93 (.slice A m c) l) (hl : m ≤ 1099511627776) (hk : k0 ≤ 1099511627776) :
    Calls Tryz.prog 40 #[.slice A m c, .int .i64 k0] w fun e w' => e = .returned (.int .i64 (k0 + m * 3 : Nat)) ∧ OwnE 3 encMeet w' B 93 (.slice A m c) (mkMeet k0 m) ∧ w.grownBy w' (Value.ownBlock (.slice A m c)) := by
  have HO := Lib.hid ho; clear ho
  have HN := Lib.hid hm; clear hm
  go_enter Tryz.func40, Tryz.ntmps40
  go_wp2
  go_loopw [1, 5] (fun kk i wr => MarkMeetRel B A m c k0 w kk i wr) (fun _ i _ => m - (intOf i).toNat)
  case atStart => exact ⟨0, l, Nat.zero_le _, rfl, by go_num, HN.out, FillE.zero _ _, HO.out, World.grownBy.refl _ _⟩
  case round =>
    obtain ⟨j, L, hj, rfl, rfl, hL, hf, ho, hg⟩ := hrel
    clear HO HN
    by_cases hlt : j < m
    · obtain ⟨g, rfl, hB, -, hr⟩ := ho.row (by omega)
      obtain ⟨⟨y0, y1, y2⟩, hy⟩ : ∃ y, L[j]? = some y := ⟨_, List.getElem?_eq_getElem (by omega)⟩
      obtain ⟨c0, c1, c2⟩ := rowCellsMeet hr hy
      obtain ⟨f0, f1, f2⟩ := rowFrozenMeet hr j
      have HF := Lib.hid hf; clear hf
      have HR := Lib.hid hr; clear hr
      have HL := Lib.hid hL; clear hL
      have HG := Lib.hid hg; clear hg
      clear hy ho
      obtain ⟨K, hK⟩ : ∃ K : Int, ((k0 + j * 3 : Nat) : Int) = K := ⟨_, rfl⟩
      have hK0 : 0 ≤ K ∧ K ≤ 6597069766656 := by omega
      have hw1 : IntKind.i64.wrap (K + 1) = K + 1 := IntWalk.i64_in _ (by omega)
      have hw2 : IntKind.i64.wrap (K + 1 + 1) = K + 1 + 1 := IntWalk.i64_in _ (by omega)
      have hw3 : IntKind.i64.wrap (K + 1 + 1 + 1) = K + 1 + 1 + 1 := IntWalk.i64_in _ (by omega)
      have HA : Hid (mkAtMeet k0 j = (K, K + 1, K + 1 + 1)) := Lib.hid (by rw [← hK]; rfl)
      have HK : Hid (K + 3 = ((k0 + (j + 1) * 3 : Nat) : Int)) := Lib.hid (by omega)
      rw [hK]
      clear hK hK0
      go_wp2
      go_roundw
      case rel =>
        have h2 := (rowMeet_set HR.out (by rw [HL.out]; exact hlt) (K) (K + 1) (K + 1 + 1)).own elMeet hB
        rw [List.length_set, HL.out] at h2
        exact ⟨j + 1, _, by omega, by go_num, by rw [← HK.out]; go_num, by rw [List.length_set]; exact HL.out, HF.out.set (by rw [HL.out]; exact hlt) (congrArg some HA.out), h2, (growE_setCell (growE_setCell (growE_setCell HG.out (j * 3) _) (j * 3 + 1) _) (j * 3 + 2) _)⟩
      case measure => simp [intOf]; omega
    · obtain rfl : j = m := by omega
      have HF := Lib.hid hf; clear hf
      have HO := Lib.hid ho; clear ho
      have HG := Lib.hid hg; clear hg
      have HL := Lib.hid hL; clear hL
      go_wp2
      go_ret
      have e : L = mkMeet k0 j := FillE.done (f := fun i => some (mkAtMeet k0 i)) (by rw [HL.out]; exact HF.out) (by rw [mkMeet_len]; exact HL.out.symm) (fun i hi => mkMeet_get _ _ _ (by rw [mkMeet_len] at hi; exact hi))
      have ho := HO.out
      rw [e] at ho
      exact ⟨rfl, ho, HG.out⟩
/-- The mark of a held row. -/
def MarkMeetHeld (lo hi : Nat) (A : Option Addr) (m c k0 : Nat) (w : World) (e : Ending) (w' : World) : Prop :=
  ∃ q : Nat, Hid (q = k0 + m * 3) ∧ e = .returned (.int .i64 q) ∧ HeldE 3 encMeet w' lo hi 93 (.slice A m c) (mkMeet k0 m) ∧ w.grownBy w' (Value.ownBlock (.slice A m c))
theorem markMeet_held (A : Option Addr) (m c k0 lo hi : Nat) (l : List (Int × Int × Int)) (w : World) (ho : HeldE 3 encMeet w lo hi 93 (.slice A m c) l) (hm : l.length = m) (hl : m ≤ 1099511627776) (hk : k0 ≤ 1099511627776) :
    Calls Tryz.prog 40 #[.slice A m c, .int .i64 k0] w (MarkMeetHeld lo hi A m c k0 w) :=
  (markMeet_any A m c k0 lo l w hm ho.1 hl hk).mono fun e w' ⟨h1, h2, h3⟩ => ⟨_, Lib.hid rfl, h1, ⟨h2, ho.2.1, Nat.le_trans ho.2.2 h3.size⟩, h3⟩
set_option maxRecDepth 100000 in
theorem heldMeet_any (A : Option Addr) (m c k0 B : Nat) (w : World) (hs : SeesE 3 encMeet w B A (mkMeet k0 m)) (hl : m ≤ 1099511627776) (hk : k0 ≤ 1099511627776) :
    Calls Tryz.prog 41 #[.slice A m c, .int .i64 k0] w fun e w' => e = .returned (.int .i64 (k0 + m * 3 : Nat)) ∧ w = w' := by
  have HS := Lib.hid hs; clear hs
  go_enter Tryz.func41, Tryz.ntmps41
  go_wp2
  go_loop [1, 5] (fun kk i => ∃ j : Nat, j ≤ m ∧ i = .int .i64 j ∧ kk = .int .i64 (k0 + j * 3 : Nat)) (fun _ i => m - (intOf i).toNat)
  case atStart => exact ⟨0, Nat.zero_le _, rfl, by go_num⟩
  case round =>
    obtain ⟨j, hj, rfl, rfl⟩ := hrel
    by_cases hlt : j < m
    · obtain ⟨b, off, rfl, hbl, -⟩ := HS.out j _ (mkMeet_get k0 m j hlt)
      obtain ⟨K, hK⟩ : ∃ K : Int, ((k0 + j * 3 : Nat) : Int) = K := ⟨_, rfl⟩
      have hx : (mkMeet k0 m)[j]? = some (K, K + 1, K + 1 + 1) := by rw [mkMeet_get k0 m j hlt, ← hK]; rfl
      obtain ⟨c0, c1, c2⟩ := cellsMeet HS.out hx
      have hK0 : 0 ≤ K ∧ K ≤ 6597069766656 := by omega
      have hw1 : IntKind.i64.wrap (K + 1) = K + 1 := IntWalk.i64_in _ (by omega)
      have hw2 : IntKind.i64.wrap (K + 1 + 1) = K + 1 + 1 := IntWalk.i64_in _ (by omega)
      have hw3 : IntKind.i64.wrap (K + 1 + 1 + 1) = K + 1 + 1 + 1 := IntWalk.i64_in _ (by omega)
      have HK : Hid (K + 3 = ((k0 + (j + 1) * 3 : Nat) : Int)) := Lib.hid (by omega)
      rw [hK]
      clear hK hK0 hx
      go_wp2
      go_round
      case rel => exact ⟨j + 1, by omega, by go_num, by rw [← HK.out]; go_num⟩
      case measure => simp [intOf]; omega
    · obtain rfl : j = m := by omega
      go_wp2
      go_ret
      exact ⟨rfl, rfl⟩
/-- The marks are found again: the next number. -/
theorem heldMeet_q (A : Option Addr) (m c k0 B : Nat) (w : World) (hs : SeesE 3 encMeet w B A (mkMeet k0 m)) (hl : m ≤ 1099511627776) (hk : k0 ≤ 1099511627776) :
    Calls Tryz.prog 41 #[.slice A m c, .int .i64 k0] w fun e w' => ∃ q : Nat, Hid (q = k0 + m * 3) ∧ e = .returned (.int .i64 q) ∧ w = w' :=
  (heldMeet_any A m c k0 B w hs hl hk).mono fun e w' ⟨h1, h2⟩ => ⟨_, Lib.hid rfl, h1, h2⟩
end Go.Proofs.YtbnjaaegbmhopaaGreatDoor
end
section
/- markText of the laws: a text for each int, the same each time. -/
namespace Go.Proofs.YtbnjaaegbmhopaaGreatDoor
open Go.ChangeShapes Go.WideShapes Go.ChangeAt Go.RowKit
set_option linter.unusedVariables false

def mkD (d : Nat) : UInt8 := UInt8.ofNat (48 + d)
theorem mkD_int (d : Nat) (h : d < 10) : (Value.int .u8 ((mkD d).toNat : Int)) = .int .u8 (48 + (d : Int)) := by
  unfold mkD
  congr 1
  have : (UInt8.ofNat (48 + d)).toNat = 48 + d := by simp [UInt8.toNat_ofNat]; omega
  omega
def mkG (x : Nat) (l : List UInt8) : List UInt8 := if h : x = 0 then l else mkG (x / 10) (mkD (x % 10) :: l)
termination_by x
decreasing_by omega
theorem mkG_zero (l : List UInt8) : mkG 0 l = l := by unfold mkG; simp
theorem mkG_step (x : Nat) (l : List UInt8) (h : x ≠ 0) : mkG x l = mkG (x / 10) (mkD (x % 10) :: l) := by rw [mkG]; simp [h]
theorem mkG_len (x : Nat) : ∀ l, l.length ≤ (mkG x l).length ∧ (mkG x l).length ≤ x / 10 + 1 + l.length ∧ (x ≠ 0 → l.length + 1 ≤ (mkG x l).length) := by
  induction x using Nat.strongRecOn with
  | _ x ih =>
    intro l
    by_cases h : x = 0
    · subst h; rw [mkG_zero]; exact ⟨Nat.le_refl _, by omega, by omega⟩
    · rw [mkG_step x l h]
      by_cases h1 : x / 10 = 0
      · rw [h1, mkG_zero]; simp only [List.length_cons]; exact ⟨by omega, by omega, by omega⟩
      · obtain ⟨a, b, c⟩ := ih (x / 10) (by omega) (mkD (x % 10) :: l)
        simp only [List.length_cons] at a b c
        exact ⟨by omega, by omega, fun _ => by omega⟩
theorem mkG_dig (m : Nat) : ∀ x l, x < 10 ^ m → (mkG x l).length ≤ m + l.length := by
  induction m with
  | zero => intro x l h; have : x = 0 := by simp at h; exact h
            subst this; rw [mkG_zero]; omega
  | succ m ih =>
    intro x l h
    by_cases hx : x = 0
    · subst hx; rw [mkG_zero]; omega
    · rw [mkG_step x l hx]
      have := ih (x / 10) (mkD (x % 10) :: l) (by rw [Nat.pow_succ] at h; omega)
      simp only [List.length_cons] at this
      omega
/-- The text that marks k. -/
def mkV (k : Int) : ByteArray := if k ≤ 0 then ⟨([109, 48] : List UInt8).toArray⟩ else ⟨(109 :: mkG k.toNat []).toArray⟩
theorem mk_conv (w : World) (b : Nat) (d : Nat) (z : Int) (hd : d < 10) (hz : z = 48 + (d : Int)) (hb : b = w.heap.size) :
    (convert 22 9 (.slice (some ⟨b, 0, none⟩) 1 1)).run Tryz.prog (w.alloc (.cells #[.int .u8 z] 5)) = .ok (.string ⟨[mkD d].toArray⟩) (w.alloc (.cells #[.int .u8 z] 5)) := by
  refine run_convert_bytes_back (P := Tryz.prog) _ 22 9 5 ⟨b, 0, none⟩ 1 [mkD d] Tryz.underlying22 Tryz.underlying5 Tryz.underlying9 ?_
  intro j hj
  have hj0 : j = 0 := by simp at hj; omega
  subst hj0; subst hb; subst hz
  simp only [List.getElem_cons_zero]
  rw [mkD_int d hd]
  simp [Addr.add, go_sem]
theorem mk_ret {a b : List UInt8} (h : a = b) : Ending.returned (.string ⟨a.toArray⟩) = .returned (.string ⟨b.toArray⟩) := by rw [h]

/-- The head of a round: digits l have been taken off, x is what is left. -/
def MkRel (n : Int) (B : Nat) (w : World) (v3 v4 : Value) (wr : World) : Prop :=
  ∃ x : Int, ∃ l : List UInt8, v4 = .int .i64 x ∧ v3 = .string ⟨l.toArray⟩ ∧ mkG x.toNat l = mkG n.toNat [] ∧
    0 ≤ x ∧ x ≤ 9223372036854775807 ∧ Below B w wr

set_option maxRecDepth 100000 in
theorem markText_is (n : Int) (h1 : n ≤ 9223372036854775807) (w : World) :
    Calls Tryz.prog 73 #[.int .i64 n] w fun e w' => e = .returned (.string (mkV n)) ∧ Below w.heap.size w w' := by
  by_cases hz : n ≤ 0
  · have e : mkV n = ⟨([109, 48] : List UInt8).toArray⟩ := by unfold mkV; rw [if_pos hz]
    rw [e]
    go_enter Tryz.func73, Tryz.ntmps73
    go_wp2
    go_ret
    exact ⟨rfl, Below.refl _ _⟩
  · have e : mkV n = ⟨(109 :: mkG n.toNat []).toArray⟩ := by unfold mkV; rw [if_neg hz]
    rw [e]
    have hN := mkG_dig 19 n.toNat [] (by omega)
    simp only [List.length_nil] at hN
    go_enter Tryz.func73, Tryz.ntmps73
    go_wp2
    go_loopw [0, 3] (fun v4 v3 wr => MkRel n w.heap.size w v3 v4 wr) (fun v4 _ _ => (intOf v4).natAbs)
    case atStart => exact ⟨n, [], rfl, rfl, rfl, by omega, h1, Below.refl _ _⟩
    case round =>
      obtain ⟨x, l, rfl, rfl, hd, hx0, hx1, hb⟩ := hrel
      have hg := mkG_len x.toNat l
      rw [hd] at hg
      obtain ⟨g1, _, g3⟩ := hg
      by_cases hx : x = 0
      · subst hx
        have hadd : ∀ W : World, (Op.stringOp .add ⟨#[109]⟩ ⟨l.toArray⟩).run Tryz.prog W = .ok (.string ⟨([109] ++ l).toArray⟩) W := fun W => run_string_add_lists (P := Tryz.prog) W [109] l (by decide) (by omega)
        have e2 : l = mkG n.toNat [] := by rw [← hd]; exact (mkG_zero l).symm
        have HE := Lib.hid e2; clear e2
        clear hd
        go_wp2
        go_ret
        exact ⟨mk_ret (by rw [← HE.out]), hb⟩
      · have hs : mkG (x / 10).toNat ([mkD (x.toNat % 10)] ++ l) = mkG n.toNat [] := by
          rw [← hd, mkG_step x.toNat l (by omega), show (x / 10).toNat = x.toNat / 10 by omega]; rfl
        have HS := Lib.hid hs; clear hs hd
        have hl : l.length ≤ 100 := by omega
        have hadd : ∀ d : Nat, ∀ W : World, (Op.stringOp .add ⟨[mkD d].toArray⟩ ⟨l.toArray⟩).run Tryz.prog W = .ok (.string ⟨([mkD d] ++ l).toArray⟩) W := fun d W => run_string_add_lists (P := Tryz.prog) W [mkD d] l (by simp) (by omega)
        have hcv := mk_conv wr wr.heap.size (x.toNat % 10) (48 + x % 10) (Nat.mod_lt _ (by decide)) (by omega) rfl
        go_wp2
        go_roundw
        case rel => exact ⟨x / 10, _, rfl, rfl, HS.out, by omega, by omega, hb.alloc hb.size _⟩
        case measure => simp only [intOf]; omega
end Go.Proofs.YtbnjaaegbmhopaaGreatDoor
end
section
/- Marks over features: what they lay, and what they leave. -/
namespace Go.Proofs.YtbnjaaegbmhopaaGreatDoor
open Go.ChangeShapes Go.WideShapes Go.ChangeAt Go.RowKit
set_option linter.unusedVariables false

/-- What a mark lays over one feature, over a list, and the next number. -/
def mkF1 (k : Nat) (f : Feat) : Feat := ((k : Int), (k : Int) + 1, (k : Int) + 2, mkV ((k : Int) + 3), mkPoint (k + 4) f.2.2.2.2.length)
def mkFn (k : Nat) (f : Feat) : Nat := k + 4 + f.2.2.2.2.length * 2
def mkFs : Nat → List Feat → List Feat
  | _, [] => []
  | k, f :: t => mkF1 k f :: mkFs (mkFn k f) t
def mkFq : Nat → List Feat → Nat
  | k, [] => k
  | k, f :: t => mkFq (mkFn k f) t
theorem mkFs_len (l : List Feat) : ∀ k, (mkFs k l).length = l.length := by
  induction l with
  | nil => intro k; rfl
  | cons f t ih => intro k; simp [mkFs, ih]
theorem mkFq_app (l l2 : List Feat) : ∀ k, mkFq k (l ++ l2) = mkFq (mkFq k l) l2 := by
  induction l with
  | nil => intro k; rfl
  | cons f t ih => intro k; simp [mkFq, ih]
theorem mkFs_app (l l2 : List Feat) : ∀ k, mkFs k (l ++ l2) = mkFs k l ++ mkFs (mkFq k l) l2 := by
  induction l with
  | nil => intro k; rfl
  | cons f t ih => intro k; simp [mkFs, mkFq, ih]
theorem mkFq_le (l : List Feat) : ∀ k, k ≤ mkFq k l := by
  induction l with
  | nil => intro k; exact Nat.le_refl _
  | cons f t ih => intro k; have := ih (mkFn k f); simp only [mkFq]; unfold mkFn at this ⊢; omega
theorem take_succF {l : List Feat} {j : Nat} {f : Feat} (h : l[j]? = some f) : l.take (j + 1) = l.take j ++ [f] := by
  rw [List.take_add_one, h]; rfl
theorem mkFq_succ {l : List Feat} {j : Nat} {f : Feat} (k : Nat) (h : l[j]? = some f) : mkFq k (l.take (j + 1)) = mkFn (mkFq k (l.take j)) f := by
  rw [take_succF h, mkFq_app]; rfl
theorem mkFq_take (l : List Feat) (k j : Nat) : mkFq k (l.take j) ≤ mkFq k l := by
  have := mkFq_app (l.take j) (l.drop j) k
  rw [List.take_append_drop] at this
  rw [this]
  exact mkFq_le _ _
/-- The list in the middle of a walk. -/
def mkMid (k j : Nat) (l : List Feat) : List Feat := mkFs k (l.take j) ++ l.drop j
theorem mkMid_zero (k : Nat) (l : List Feat) : mkMid k 0 l = l := rfl
theorem mkMid_all (k : Nat) (l : List Feat) : mkMid k l.length l = mkFs k l := by simp [mkMid]
theorem mkMid_at {k j : Nat} {l : List Feat} {f : Feat} (h : l[j]? = some f) : (mkMid k j l)[j]? = some f := by
  have hj := (List.getElem?_eq_some_iff.1 h).1
  unfold mkMid
  rw [List.getElem?_append_right (by rw [mkFs_len, List.length_take]; omega), mkFs_len, List.length_take, List.getElem?_drop]
  rw [show j + (j - min j l.length) = j by omega]; exact h
theorem mkMid_succ {k j : Nat} {l : List Feat} {f : Feat} (h : l[j]? = some f) : mkMid k (j + 1) l = (mkMid k j l).set j (mkF1 (mkFq k (l.take j)) f) := by
  have hj := (List.getElem?_eq_some_iff.1 h).1
  have hd : l.drop j = f :: l.drop (j + 1) := by
    rw [List.drop_eq_getElem_cons hj]
    congr 1
    exact (List.getElem?_eq_some_iff.1 h).2
  unfold mkMid
  rw [take_succF h, mkFs_app, hd, List.set_append_right _ _ (by rw [mkFs_len, List.length_take]; omega), mkFs_len, List.length_take, show j - min j l.length = 0 by omega]
  simp [mkFs]
theorem mkFs_get {l : List Feat} {j : Nat} {f : Feat} (k : Nat) (h : l[j]? = some f) : (mkFs k l)[j]? = some (mkF1 (mkFq k (l.take j)) f) := by
  have hj := (List.getElem?_eq_some_iff.1 h).1
  have e : l = l.take j ++ f :: l.drop (j + 1) := by
    have hd : l.drop j = f :: l.drop (j + 1) := by
      rw [List.drop_eq_getElem_cons hj]; congr 1; exact (List.getElem?_eq_some_iff.1 h).2
    rw [← hd, List.take_append_drop]
  have e2 := congrArg (mkFs k) e
  rw [mkFs_app] at e2
  rw [e2, List.getElem?_append_right (by rw [mkFs_len, List.length_take]; omega), mkFs_len, List.length_take, show j - min j l.length = 0 by omega]
  rfl

/-- Nothing outside the blocks from lo to hi has changed. -/
structure Within (lo hi : Nat) (w w' : World) : Prop where
  os : w'.os = w.os
  tape : w'.tape = w.tape
  output : w'.output = w.output
  size : w.heap.size ≤ w'.heap.size
  block : ∀ k, k < w.heap.size → (k < lo ∨ hi ≤ k) → w'.heap[k]? = w.heap[k]?
section
variable {w w' w'' w0 : World} {lo hi lo' hi' : Nat} {v : Value} {l : List Feat} {r : Option Nat}
theorem Within.refl (lo hi : Nat) (w : World) : Within lo hi w w := ⟨rfl, rfl, rfl, Nat.le_refl _, fun _ _ _ => rfl⟩
theorem Within.trans (h : Within lo hi w w') (k : Within lo hi w' w'') : Within lo hi w w'' :=
  ⟨k.os.trans h.os, k.tape.trans h.tape, k.output.trans h.output, Nat.le_trans h.size k.size, fun i hi' ho => (k.block i (Nat.lt_of_lt_of_le hi' h.size) ho).trans (h.block i hi' ho)⟩
theorem Within.of (lo hi : Nat) (h : Below w.heap.size w w') : Within lo hi w w' := ⟨h.os, h.tape, h.output, h.size, fun k hk _ => h.block k hk⟩
theorem Within.grown (h : w.grownBy w' r) (hr : ∀ g, r = some g → lo ≤ g ∧ g < hi) : Within lo hi w w' :=
  ⟨h.os, h.tape, h.output, h.size, fun k hk ho => h.block k hk fun e => by have := hr k e.symm; omega⟩
theorem Within.cell {g : Nat} (h1 : lo ≤ g) (h2 : g < hi) (i : Nat) (u : Value) : Within lo hi w (w.setCell ⟨g, i, none⟩ u) :=
  Within.grown (growE_setCell (World.grownBy.refl w (some g)) i u) fun g' e => by simp only [Option.some.injEq] at e; subst e; exact ⟨h1, h2⟩
theorem Within.below {B : Nat} (h : Within lo hi w w') (hB : B ≤ lo) (hw : B ≤ w.heap.size) : Below B w w' := ⟨h.os, h.tape, h.output, h.size, fun k hk => h.block k (Nat.lt_of_lt_of_le hk hw) (.inl (Nat.lt_of_lt_of_le hk hB))⟩
theorem OwnE.within {α : Type} {n : Nat} {enc : α → List Value} {B : Nat} {e : TypeId} {L : List α} (h : OwnE n enc w B e v L) (hw : Within lo hi w w') (hv : ∀ g, v.ownBlock = some g → g < lo ∨ hi ≤ g) : OwnE n enc w' B e v L := by
  have hlt := h.lt
  refine ⟨h.1, ?_⟩
  rcases h.2 with hn | ⟨g, cap, cur, rfl, hB, hg, rest⟩
  · exact .inl hn
  · exact .inr ⟨g, cap, cur, rfl, hB, (hw.block g (hlt g rfl).2 (hv g rfl)).trans hg, rest⟩
theorem HeldE.within {α : Type} {n : Nat} {enc : α → List Value} {e : TypeId} {L : List α} (h : HeldE n enc w lo' hi' e v L) (hd : hi' ≤ lo ∨ hi ≤ lo') (hw : Within lo hi w w') : HeldE n enc w' lo' hi' e v L :=
  ⟨h.1.within hw fun g hg => by have := (h.1.lt g hg).1; have := h.2.1 g hg; omega, h.2.1, Nat.le_trans h.2.2 hw.size⟩

/-- A slice of features that the call holds: all its blocks lie from lo to hi. -/
def HeldF (w : World) (lo hi : Nat) (v : Value) (l : List Feat) : Prop :=
  ∃ xs, OwnE 5 encF w lo 41 v xs ∧ RowsF w lo v xs l ∧ (∀ g, v.ownBlock = some g → g < hi) ∧ (∀ (j : Nat) x b, xs[j]? = some x → (slF x).ownBlock = some b → b < hi) ∧ hi ≤ w.heap.size
theorem HeldF.own (h : HeldF w lo hi v l) : OwnF w lo v l := by obtain ⟨xs, h1, h2, _⟩ := h; exact ⟨xs, h1, h2⟩
theorem OwnF.held (h : OwnF w lo v l) : HeldF w lo w.heap.size v l := by
  obtain ⟨xs, h1, h2⟩ := h
  refine ⟨xs, h1, h2, fun g hg => (h1.lt g hg).2, fun j x b hx hb => ?_, Nat.le_refl _⟩
  obtain ⟨f, hf⟩ : ∃ f, l[j]? = some f := ⟨_, List.getElem?_eq_getElem (by rw [← h2.1]; exact (List.getElem?_eq_some_iff.1 hx).1)⟩
  exact ((h2.2.2 j x f hx hf).2.1.lt b hb).2
theorem HeldF.belowAll (h : HeldF w lo hi v l) (hb : Below w.heap.size w w') : HeldF w' lo hi v l := by
  obtain ⟨xs, h1, h2, h3, h4, h5⟩ := h
  exact ⟨xs, h1.belowAll hb, h2.belowAll hb, h3, h4, Nat.le_trans h5 hb.size⟩
theorem HeldF.within (h : HeldF w lo' hi' v l) (hd : hi' ≤ lo ∨ hi ≤ lo') (hw : Within lo hi w w') : HeldF w' lo' hi' v l := by
  obtain ⟨xs, h1, h2, h3, h4, h5⟩ := h
  refine ⟨xs, h1.within hw fun g hg => by have := (h1.lt g hg).1; have := h3 g hg; omega, ⟨h2.1, h2.2.1, fun j x f hx hf => ?_⟩, h3, h4, Nat.le_trans h5 hw.size⟩
  obtain ⟨a, b, c⟩ := h2.2.2 j x f hx hf
  exact ⟨a, b.within hw fun g hg => by have := (b.lt g hg).1; have := h4 j x g hx hg; omega, c⟩
theorem HeldF.sees {A : Option Addr} {m c : Nat} (h : HeldF w lo hi (.slice A m c) l) : SeesF w w.heap.size A l := h.own.sees
/-- One feature of the rows is marked. -/
theorem RowsF.mark {xs : List FCel} {j : Nat} {x x' : FCel} {f f' : Feat} (h : RowsF w lo v xs l) (hx : xs[j]? = some x) (hf : l[j]? = some f) (hg : w.grownBy w' (slF x).ownBlock)
    (hs : slF x' = slF x) (hS : Shal x' f') (ho : OwnE 2 encPoint w' lo 33 (slF x) f'.2.2.2.2) : RowsF w' lo v (xs.set j x') (l.set j f') := by
  have hjx := (List.getElem?_eq_some_iff.1 hx).1
  have hjl := (List.getElem?_eq_some_iff.1 hf).1
  have key : ∀ (i : Nat) y, (xs.set j x')[i]? = some y → ∃ y0, xs[i]? = some y0 ∧ slF y = slF y0 := fun i y hy => by
    by_cases hij : i = j
    · subst hij
      rw [List.getElem?_set_self hjx] at hy
      obtain rfl : x' = y := by simpa using hy
      exact ⟨x, hx, hs⟩
    · rw [List.getElem?_set_ne (fun e => hij e.symm)] at hy
      exact ⟨y, hy, rfl⟩
  refine ⟨by simp [h.1], fun i k y z b hik hy hz hb => ?_, fun i y g hy hgg => ?_⟩
  · obtain ⟨y0, hy0, e1⟩ := key i y hy
    obtain ⟨z0, hz0, e2⟩ := key k z hz
    rw [e1] at hb
    rw [e2]
    exact h.2.1 i k y0 z0 b hik hy0 hz0 hb
  · by_cases hij : i = j
    · subst hij
      rw [List.getElem?_set_self hjx] at hy
      rw [List.getElem?_set_self hjl] at hgg
      obtain rfl : x' = y := by simpa using hy
      obtain rfl : f' = g := by simpa using hgg
      refine ⟨hS, hs ▸ ho, fun b hb => ?_⟩
      rw [hs] at hb
      exact (h.2.2 i x f hx hf).2.2 b hb
    · rw [List.getElem?_set_ne (fun e => hij e.symm)] at hy hgg
      obtain ⟨a, b, c⟩ := h.2.2 i y g hy hgg
      refine ⟨a, b.kept hg ?_, c⟩
      match hv : (slF y).ownBlock with
      | none => exact .inl rfl
      | some p => exact .inr fun e => h.2.1 i j y x p hij hy hx hv (e ▸ rfl)
end
end Go.Proofs.YtbnjaaegbmhopaaGreatDoor
end
section
/- markFeatureS and heldFeatureS of the laws. -/
namespace Go.Proofs.YtbnjaaegbmhopaaGreatDoor
open Go.ChangeShapes Go.WideShapes Go.ChangeAt Go.RowKit
set_option linter.unusedVariables false

theorem markPoint_z (A : Option Addr) (m c k0 B : Nat) (z : Int) (hz : ((k0 : Nat) : Int) = z) (l : List (Int × Int)) (w : World) (hm : l.length = m) (ho : OwnE 2 encPoint w B 33 (.slice A m c) l) (hl : m ≤ 1099511627776) (hk : k0 ≤ 1099511627776) :
    Calls Tryz.prog 69 #[.slice A m c, .int .i64 z] w fun e w' => ∃ q : Nat, Hid (q = k0 + m * 2) ∧ e = .returned (.int .i64 q) ∧ OwnE 2 encPoint w' B 33 (.slice A m c) (mkPoint k0 m) ∧ w.grownBy w' (Value.ownBlock (.slice A m c)) := by
  subst hz
  exact (markPoint_any A m c k0 B l w hm ho hl hk).mono fun e w' ⟨a, b, d⟩ => ⟨_, Lib.hid rfl, a, b, d⟩
section
variable {w : World} {g cc : Nat} {e : TypeId} {L : List FCel} {j : Nat}
theorem rowF_set3 (h : RowE 5 encF w g e cc L) {y : FCel} (hx : L[j]? = some y) (a k r : Int) :
    RowE 5 encF (((w.setCell ⟨g, j * 5, none⟩ (.int .i64 a)).setCell ⟨g, j * 5 + 1, none⟩ (.int .i64 k)).setCell ⟨g, j * 5 + 2, none⟩ (.int .i64 r)) g e cc (L.set j (a, k, r, y.2.2.2)) := by
  obtain ⟨y0, y1, y2, y3, y4, y5, y6⟩ := y
  have hj := (List.getElem?_eq_some_iff.1 hx).1
  have h1 := h.put elF (k := 0) (x' := (a, y1, y2, y3, y4, y5, y6)) (v := .int .i64 a) hx (by decide) rfl
  have h2 := h1.put elF (k := 1) (x' := (a, k, y2, y3, y4, y5, y6)) (v := .int .i64 k) (List.getElem?_set_self (by simpa using hj)) (by decide) rfl
  have h3 := h2.put elF (k := 2) (x' := (a, k, r, y3, y4, y5, y6)) (v := .int .i64 r) (List.getElem?_set_self (by simpa using hj)) (by decide) rfl
  simp only [List.set_set, Nat.add_zero] at h3
  exact h3
theorem rowF_set4 (h : RowE 5 encF w g e cc L) {y : FCel} (hx : L[j]? = some y) (s : ByteArray) :
    RowE 5 encF (w.setCell ⟨g, j * 5 + 3, none⟩ (.string s)) g e cc (L.set j (y.1, y.2.1, y.2.2.1, s, y.2.2.2.2)) := by
  obtain ⟨y0, y1, y2, y3, y4, y5, y6⟩ := y
  exact h.put elF (k := 3) (x' := (y0, y1, y2, s, y4, y5, y6)) (v := .string s) hx (by decide) rfl
end
/-- The marks of features are laid. -/
def MarkFHeld (lo hi : Nat) (A : Option Addr) (m c k0 : Nat) (l : List Feat) (w : World) (e : Ending) (w' : World) : Prop :=
  ∃ q : Nat, Hid (q = mkFq k0 l) ∧ e = .returned (.int .i64 q) ∧ HeldF w' lo hi (.slice A m c) (mkFs k0 l) ∧ Within lo hi w w'
set_option maxRecDepth 100000 in
set_option maxHeartbeats 1000000 in
theorem markFeatureS_held (A : Option Addr) (m c k0 lo hi : Nat) (l : List Feat) (w : World) (ho : HeldF w lo hi (.slice A m c) l) (hm : l.length = m) (hl : m ≤ 1099511627776) (hk : mkFq k0 l ≤ 1099511627776) :
    Calls Tryz.prog 39 #[.slice A m c, .int .i64 k0] w (MarkFHeld lo hi A m c k0 l w) := by
  have HO := Lib.hid ho; clear ho
  have HN := Lib.hid hm; clear hm
  have HK0 := Lib.hid hk; clear hk
  go_enter Tryz.func39, Tryz.ntmps39
  go_wp2
  go_loopw [1, 5] (fun kk i wr => ∃ j : Nat, j ≤ m ∧ i = .int .i64 j ∧ kk = .int .i64 (mkFq k0 (l.take j) : Nat) ∧ Hid (HeldF wr lo hi (.slice A m c) (mkMid k0 j l)) ∧ Hid (Within lo hi w wr)) (fun _ i _ => m - (intOf i).toNat)
  case atStart => exact ⟨0, Nat.zero_le _, rfl, rfl, HO, Lib.hid (Within.refl _ _ _)⟩
  case round =>
    obtain ⟨j, hj, rfl, rfl, HH, HW⟩ := hrel
    clear HO
    by_cases hlt : j < m
    · obtain ⟨f, hf⟩ : ∃ f, l[j]? = some f := ⟨_, List.getElem?_eq_getElem (by rw [HN.out]; exact hlt)⟩
      obtain ⟨xs, h1, h2, h3, h4, h5⟩ := HH.out
      have hmid := mkMid_at (k := k0) hf
      have hxl : j < xs.length := by rw [h2.1]; exact (List.getElem?_eq_some_iff.1 hmid).1
      obtain ⟨g, rfl, hB, hml, hr⟩ := h1.row (by omega)
      obtain ⟨y, hy⟩ : ∃ y, xs[j]? = some y := ⟨_, List.getElem?_eq_getElem hxl⟩
      obtain ⟨hS, hoP, hne⟩ := h2.2.2 j y f hy hmid
      have hgh := h3 g rfl
      have hph := fun b hb => h4 j y b hy hb
      obtain ⟨y0, y1, y2, y3, y4, y5, y6⟩ := y
      have hcap := own_caps hoP
      obtain ⟨c0, c1, c2, c3, c4⟩ := rowF_cells hr hy
      obtain ⟨f0, f1, f2, f3, f4⟩ := rowF_frz hr j
      have HR3 := fun a k r => rowF_set3 hr hy a k r
      have HX := Lib.hid (And.intro h1 (And.intro h2 (And.intro hS (And.intro hoP (And.intro h3 (And.intro h4 h5))))))
      have HY := Lib.hid hy
      have HF := Lib.hid hf
      have HM := Lib.hid hmid
      have HCap := Lib.hid hcap
      have HNe := Lib.hid hne
      have HPh := Lib.hid hph
      have hR3 := Lib.hid HR3
      have HML := Lib.hid hml
      have HXL := Lib.hid hxl
      have hkq : mkFn (mkFq k0 (l.take j)) f ≤ 1099511627776 := by rw [← mkFq_succ k0 hf]; exact Nat.le_trans (mkFq_take l k0 (j + 1)) HK0.out
      have HKQ := Lib.hid hkq
      obtain ⟨Kn, hKn⟩ : ∃ Kn : Nat, mkFq k0 (l.take j) = Kn := ⟨_, rfl⟩
      have HKn := Lib.hid hKn
      rw [hKn] at hkq ⊢
      obtain ⟨K, hK⟩ : ∃ K : Int, ((Kn : Nat) : Int) = K := ⟨_, rfl⟩
      obtain ⟨P, hP⟩ : ∃ P : Int, ((Kn + 4 : Nat) : Int) = P := ⟨_, rfl⟩
      have hK0 : 0 ≤ K ∧ K ≤ 1099511627776 ∧ Kn + 4 ≤ 1099511627776 ∧ K + 1 + 1 + 1 + 1 = P := by unfold mkFn at hkq; omega
      have hw1 : IntKind.i64.wrap (K + 1) = K + 1 := IntWalk.i64_in _ (by omega)
      have hw2 : IntKind.i64.wrap (K + 1 + 1) = K + 1 + 1 := IntWalk.i64_in _ (by omega)
      have hw3 : IntKind.i64.wrap (K + 1 + 1 + 1) = K + 1 + 1 + 1 := IntWalk.i64_in _ (by omega)
      have hw4 : IntKind.i64.wrap (K + 1 + 1 + 1 + 1) = P := (IntWalk.i64_in _ (by omega)).trans hK0.2.2.2
      have hk3 : K + 1 + 1 + 1 ≤ 9223372036854775807 := by omega
      have HP := Lib.hid hP
      have HK := Lib.hid hK
      have HK4 := Lib.hid hK0
      rw [hK]
      clear hK hP hK0 hKn hkq h1 h2 h3 h4 h5 hmid hS hoP hne hph hcap hy hf hml hxl hr HR3
      go_wp2_with fail
      refine (markText_is (K + 1 + 1 + 1) hk3 _).mono ?_
      rintro e w1 ⟨rfl, hb⟩
      obtain ⟨h1, h2, hS, hoP, h3, h4, h5⟩ := HX.out
      have hr3 := hR3.out K (K + 1) (K + 1 + 1)
      have hlt3 := hr3.lt
      have hr4 := hr3.below hb hlt3
      have hy4 : (xs.set j (K, K + 1, K + 1 + 1, y3, y4, y5, y6))[j]? = some (K, K + 1, K + 1 + 1, y3, y4, y5, y6) := List.getElem?_set_self HXL.out
      have hr5 := rowF_set4 hr4 hy4 (mkV (K + 1 + 1 + 1))
      rw [List.set_set] at hr5
      have d3 : w1.cell? ⟨g, j * 5 + 3, none⟩ = some (.string y3) := (rowF_cells hr4 hy4).2.2.2.1
      have d4 : w1.cell? ⟨g, j * 5 + 4, none⟩ = some (.slice y4 y5 y6) := (rowF_cells hr4 hy4).2.2.2.2
      obtain ⟨e0, e1, e2, e3, e4⟩ := rowF_frz hr4 j
      have hv : (Value.slice (some ⟨g, 0, none⟩) m c).ownBlock = some g := rfl
      have hng : (slF (y0, y1, y2, y3, y4, y5, y6)).ownBlock ≠ some g := fun e => HNe.out g e hv
      have hP5 := (((((hoP.putN hng (j * 5) (.int .i64 K)).putN hng (j * 5 + 1) (.int .i64 (K + 1))).putN hng (j * 5 + 2) (.int .i64 (K + 1 + 1))).belowAll hb).putN hng (j * 5 + 3) (.string (mkV (K + 1 + 1 + 1))))
      have hQ5 := (((((h2.putN hv (j * 5) (.int .i64 K)).putN hv (j * 5 + 1) (.int .i64 (K + 1))).putN hv (j * 5 + 2) (.int .i64 (K + 1 + 1))).belowAll hb).putN hv (j * 5 + 3) (.string (mkV (K + 1 + 1 + 1))))
      have hW5 := ((((HW.out.trans (Within.cell hB hgh (j * 5) (.int .i64 K))).trans (Within.cell hB hgh (j * 5 + 1) (.int .i64 (K + 1)))).trans (Within.cell hB hgh (j * 5 + 2) (.int .i64 (K + 1 + 1)))).trans (Within.of lo hi hb)).trans (Within.cell hB hgh (j * 5 + 3) (.string (mkV (K + 1 + 1 + 1))))
      have hsz5 : hi ≤ (w1.setCell ⟨g, j * 5 + 3, none⟩ (.string (mkV (K + 1 + 1 + 1)))).heap.size := by
        have := hb.size
        simp [World.setCell] at this ⊢
        omega
      have HR5 := Lib.hid hr5
      have HP5 := Lib.hid hP5
      have HQ5 := Lib.hid hQ5
      have HW5 := Lib.hid hW5
      have HZ5 := Lib.hid hsz5
      clear h1 h2 hS hoP h3 h4 h5 hr3 hlt3 hr4 hy4 hr5 hP5 hQ5 hW5 hsz5 hv hng c0 c1 c2 c3 c4 f0 f1 f2 f3 f4 hb hw1 hw2 hw3 hk3
      go_wp2_with fail
      refine (markPoint_z y4 y5 y6 (Kn + 4) lo P HP.out f.2.2.2.2 _ HCap.out.1.symm HP5.out (by have := HKQ.out; have := HKn.out; have := HCap.out.1; unfold mkFn at *; omega) HK4.out.2.2.1).mono ?_
      rintro e w3 ⟨q, hq, rfl, ho3, hg3⟩
      have HQ := hq
      have HO3 := Lib.hid ho3
      have HG3 := Lib.hid hg3
      clear hq ho3 hg3
      go_wp2
      obtain ⟨h1, h2, hS, hoP, h3, h4, h5⟩ := HX.out
      have hlen : (xs.set j (K, K + 1, K + 1 + 1, mkV (K + 1 + 1 + 1), y4, y5, y6)).length = m := by rw [List.length_set]; exact HML.out.symm
      have ho := HO3.out
      rw [show mkPoint (Kn + 4) y5 = mkPoint (Kn + 4) f.2.2.2.2.length by rw [HCap.out.1]] at ho
      have hrow := (HR5.out.own elF hB).kept HG3.out (.inr fun e => HNe.out g e.symm rfl)
      rw [hlen] at hrow
      have hmk := HQ5.out.mark HY.out HM.out HG3.out (x' := (K, K + 1, K + 1 + 1, mkV (K + 1 + 1 + 1), y4, y5, y6)) (f' := mkF1 Kn f) rfl
        ⟨HK.out.symm, by rw [← HK.out]; rfl, by show K + 1 + 1 = (Kn : Int) + 2; rw [HK.out]; omega, by show mkV (K + 1 + 1 + 1) = mkV ((Kn : Int) + 3); rw [HK.out]; congr 1; omega⟩ ho
      have hmid2 := mkMid_succ (k := k0) HF.out
      rw [HKn.out] at hmid2
      refine ⟨⟨j + 1, by omega, by go_num, ?_, Lib.hid ⟨_, hrow, by rw [hmid2]; exact hmk, h3, fun i x b hx hb => ?_, Nat.le_trans HZ5.out HG3.out.size⟩, Lib.hid (HW5.out.trans (Within.grown HG3.out fun b hb => ⟨(hoP.lt b hb).1, HPh.out b hb⟩))⟩, by simp only [intOf]; omega⟩
      · rw [mkFq_succ k0 HF.out, HKn.out, HQ.out, HCap.out.1]; rfl
      · by_cases hij : i = j
        · subst hij
          rw [List.getElem?_set_self HXL.out] at hx
          simp only [Option.some.injEq] at hx
          subst hx
          exact HPh.out b hb
        · rw [List.getElem?_set_ne (fun e => hij e.symm)] at hx
          exact h4 i x b hx hb
    · obtain rfl : j = m := by omega
      go_wp2
      go_ret
      have e1 : l.take j = l := by rw [← HN.out]; exact List.take_length
      have e2 := HH.out
      rw [e1]
      rw [show mkMid k0 j l = mkFs k0 l by rw [← HN.out]; exact mkMid_all _ _] at e2
      exact ⟨_, Lib.hid rfl, rfl, e2, HW.out⟩
end Go.Proofs.YtbnjaaegbmhopaaGreatDoor
end
section
/- heldFeatureS of the laws: the marks are found again. -/
namespace Go.Proofs.YtbnjaaegbmhopaaGreatDoor
open Go.ChangeShapes Go.WideShapes Go.ChangeAt Go.RowKit
set_option linter.unusedVariables false

/-- The mark of one feature: its points alone. -/
def MarkF1Held (lo hi : Nat) (A : Option Addr) (m c k0 : Nat) (w : World) (e : Ending) (w' : World) : Prop :=
  ∃ q : Nat, Hid (q = k0 + m * 2) ∧ e = .returned (.int .i64 q) ∧ HeldE 2 encPoint w' lo hi 33 (.slice A m c) (mkPoint k0 m) ∧ Within lo hi w w'
set_option maxRecDepth 100000 in
theorem markFeature_held (a k r : Int) (s : ByteArray) (A : Option Addr) (m c k0 lo hi : Nat) (ps : List (Int × Int)) (w : World) (ho : HeldE 2 encPoint w lo hi 33 (.slice A m c) ps) (hm : ps.length = m) (hl : m ≤ 1099511627776) (hk : k0 ≤ 1099511627776) :
    Calls Tryz.prog 31 #[FtV a k r s A m c, .int .i64 k0] w (MarkF1Held lo hi A m c k0 w) := by
  have HV := Lib.hid (Vars.of1 w (FtC a k r s A m c) 41)
  have HO := Lib.hid (ho.belowAll HV.out.1)
  have HO0 := Lib.hid ho
  clear ho
  go_enter Tryz.func31, Tryz.ntmps31
  go_wp2_with fail
  refine (markPoint_z A m c k0 lo _ rfl ps _ hm HO.out.1 hl hk).mono ?_
  rintro e w1 ⟨q, hq, rfl, h2, h3⟩
  have HQ := hq
  have H2 := Lib.hid h2
  have H3 := Lib.hid h3
  clear hq h2 h3
  go_wp2
  go_ret
  exact ⟨q, HQ, rfl, ⟨H2.out, HO0.out.2.1, Nat.le_trans HO.out.2.2 H3.out.size⟩, (Within.of lo hi HV.out.1).trans (Within.grown H3.out fun g hg => ⟨(HO0.out.1.lt g hg).1, HO0.out.2.1 g hg⟩)⟩
end Go.Proofs.YtbnjaaegbmhopaaGreatDoor
end
section
/- Features: how much the laws weigh them; equal slices of features. -/
namespace Go.Proofs.YtbnjaaegbmhopaaGreatDoor
open Go.ChangeShapes Go.WideShapes Go.ChangeAt Go.RowKit
set_option linter.unusedVariables false

/-- What is left when a feature is weighed; negative if it is too heavy. -/
def szF (left : Int) (f : Feat) : Int := if left < (f.2.2.2.1.size : Int) then -1 else if left - f.2.2.2.1.size < (f.2.2.2.2.length : Int) then -1 else left - f.2.2.2.1.size - f.2.2.2.2.length
def szL : Int → List Feat → Int
  | left, [] => left
  | left, f :: t => if szF left f < 0 then -1 else szL (szF left f) t
theorem szF_le {left : Int} {f : Feat} (h : 0 ≤ szF left f) : szF left f ≤ left ∧ (f.2.2.2.1.size : Int) ≤ left ∧ (f.2.2.2.2.length : Int) ≤ left := by
  unfold szF at h ⊢
  split at h
  · omega
  · split at h
    · omega
    · next h1 h2 => rw [if_neg h1, if_neg h2]; omega
theorem szL_le {left : Int} {l : List Feat} (h : 0 ≤ szL left l) : szL left l ≤ left ∧ ∀ f ∈ l, (f.2.2.2.1.size : Int) ≤ left ∧ (f.2.2.2.2.length : Int) ≤ left := by
  induction l generalizing left with
  | nil => exact ⟨Int.le_refl _, fun f hf => by cases hf⟩
  | cons g t ih =>
    unfold szL at h ⊢
    split at h
    · omega
    · next hz =>
      rw [if_neg hz]
      have h1 := szF_le (left := left) (f := g) (by omega)
      obtain ⟨h2, h3⟩ := ih h
      refine ⟨by omega, fun f hf => ?_⟩
      rw [List.mem_cons] at hf
      rcases hf with rfl | hf
      · exact h1.2
      · have := h3 f hf; omega
/-- The weights of the first j are known. -/
theorem szL_take {left z : Int} {l : List Feat} {j : Nat} {f : Feat} (hf : l[j]? = some f) (h : szL left (l.take j) = z) (hz : 0 ≤ z) : szL left (l.take (j + 1)) = if szF z f < 0 then -1 else szF z f := by
  induction l generalizing left j with
  | nil => simp at hf
  | cons g t ih =>
    cases j with
    | zero =>
      simp only [List.getElem?_cons_zero, Option.some.injEq] at hf
      subst hf
      simp only [List.take_zero, szL] at h
      subst h
      simp only [List.take_succ_cons, List.take_zero, szL]
    | succ j =>
      simp only [List.take_succ_cons, szL] at h ⊢
      split at h
      · omega
      · next hn => rw [if_neg hn]; exact ih (by simpa using hf) h
theorem szL_bad {left : Int} {l : List Feat} {j : Nat} (h : szL left (l.take j) < 0) (hl : 0 ≤ left) : szL left l < 0 := by
  induction l generalizing left j with
  | nil => simp only [List.take_nil] at h; exact h
  | cons g t ih =>
    cases j with
    | zero => simp only [List.take_zero, szL] at h; omega
    | succ j =>
      simp only [List.take_succ_cons, szL] at h ⊢
      split at h
      · next hn => rw [if_pos hn]; omega
      · next hn => rw [if_neg hn]; exact ih h (by omega)
set_option maxHeartbeats 1000000 in
theorem szFeature_is (a k r : Int) (s : ByteArray) (A : Option Addr) (c : Nat) (ps : List (Int × Int)) (left z : Int) (w : World) (h0 : 0 ≤ left) (h1 : left ≤ 1048576) (hm : s.size ≤ maxLen) (hp : ps.length ≤ 9223372036854775807) (hz : szF left (a, k, r, s, ps) = z) :
    Calls Tryz.prog 25 #[FtV a k r s A ps.length c, .int .i64 left] w fun e w' => e = .returned (.int .i64 z) ∧ Below w.heap.size w w' := by
  have HV := Lib.hid (Vars.of1 w (FtC a k r s A ps.length c) 54)
  unfold maxLen at hm
  unfold szF at hz
  dsimp only at hz
  go_enter Tryz.func25, Tryz.ntmps25
  by_cases hs : left < (s.size : Int)
  · rw [if_pos hs] at hz
    subst hz
    have hs' : left - (s.size : Int) < 0 := by omega
    go_wp2
    go_ret
    exact ⟨rfl, HV.out.1⟩
  · rw [if_neg hs] at hz
    have hs' : ¬ left - (s.size : Int) < 0 := by omega
    obtain ⟨m, hm2⟩ : ∃ m, left - (s.size : Int) = m := ⟨_, rfl⟩
    rw [hm2] at hz hs'
    have hm0 : 0 ≤ m := by omega
    have hm1 : m ≤ 1048576 := by omega
    by_cases hq : m < (ps.length : Int)
    · rw [if_pos hq] at hz
      subst hz
      go_wp2_with fail
      refine (szPointS_no A ps.length c m _ hq hm0 hp).mono ?_
      rintro e w1 ⟨rfl, rfl⟩
      go_wp2
      go_ret
      exact ⟨rfl, HV.out.1⟩
    · rw [if_neg hq] at hz
      have hq' : ¬ m - (ps.length : Int) < 0 := by omega
      go_wp2_with fail
      refine (szPointS_yes A ps.length c m _ (by omega) hm1).mono ?_
      rintro e w1 ⟨rfl, rfl⟩
      go_wp2
      go_ret
      exact ⟨by rw [← hz]; rfl, HV.out.1⟩
def szS (left : Int) (l : List Feat) : Int := if left < (l.length : Int) then -1 else szL (left - l.length) l
theorem szS_ok {left : Int} {l : List Feat} (h : 0 ≤ szS left l) : (l.length : Int) ≤ left ∧ szS left l ≤ left ∧ ∀ f ∈ l, (f.2.2.2.1.size : Int) ≤ left ∧ (f.2.2.2.2.length : Int) ≤ left := by
  unfold szS at h ⊢
  split at h
  · omega
  · next hn =>
    rw [if_neg hn]
    obtain ⟨h1, h2⟩ := szL_le h
    refine ⟨by omega, by omega, fun f hf => ?_⟩
    have := h2 f hf
    omega
theorem szF_cases (left : Int) (f : Feat) : szF left f = -1 ∨ 0 ≤ szF left f := by
  unfold szF
  split
  · exact .inl rfl
  · split
    · exact .inl rfl
    · next h1 h2 => right; omega
theorem szL_neg {left : Int} {l : List Feat} (h : szL left l < 0) (hl : 0 ≤ left) : szL left l = -1 := by
  induction l generalizing left with
  | nil => simp only [szL] at h; omega
  | cons g t ih =>
    unfold szL at h ⊢
    split
    · rfl
    · next hn => rw [if_neg hn] at h; exact ih h (by omega)
/-- Names and points that a machine holds. -/
def MachF (l : List Feat) : Prop := ∀ (j : Nat) (f : Feat), l[j]? = some f → f.2.2.2.1.size ≤ maxLen ∧ f.2.2.2.2.length ≤ 9223372036854775807
set_option maxRecDepth 100000 in
set_option maxHeartbeats 1000000 in
theorem szFeatureS_is (A : Option Addr) (c : Nat) (l : List Feat) (left z : Int) (w : World) (hs : SeesF w w.heap.size A l) (h0 : 0 ≤ left) (h1 : left ≤ 1048576) (hl : l.length ≤ 9223372036854775807) (hm : MachF l) (hz : szS left l = z) :
    Calls Tryz.prog 34 #[.slice A l.length c, .int .i64 left] w fun e w' => e = .returned (.int .i64 z) ∧ Below w.heap.size w w' := by
  have HS := Lib.hid hs
  have HM := Lib.hid hm
  obtain ⟨n, hn⟩ : ∃ n, l.length = n := ⟨_, rfl⟩
  have HN := Lib.hid hn
  unfold szS at hz
  rw [hn] at hl hz ⊢
  clear hs hm hn
  go_enter Tryz.func34, Tryz.ntmps34
  by_cases hb : left < (n : Int)
  · rw [if_pos hb] at hz
    subst hz
    have hb' : left - (n : Int) < 0 := by omega
    go_wp2
    go_ret
    exact ⟨rfl, Below.refl _ _⟩
  · rw [if_neg hb] at hz
    obtain ⟨m0, hm0⟩ : ∃ m, left - (n : Int) = m := ⟨_, rfl⟩
    rw [hm0] at hz
    have HZ := Lib.hid hz
    have hp0 : 0 ≤ m0 := by omega
    have hp1 : m0 ≤ 1048576 := by omega
    have hp2 : ¬ m0 < 0 := by omega
    clear hz
    go_wp2
    go_loopw [1, 5] (fun v iv wr => ∃ (j : Nat) (m : Int), j ≤ n ∧ iv = .int .i64 j ∧ v = .int .i64 m ∧ 0 ≤ m ∧ m ≤ 1048576 ∧ Hid (szL m0 (l.take j) = m) ∧ Hid (Below w.heap.size w wr)) (fun _ iv _ => n - (intOf iv).toNat)
    case atStart => exact ⟨0, m0, Nat.zero_le _, rfl, rfl, hp0, hp1, Lib.hid rfl, Lib.hid (Below.refl _ _)⟩
    case round =>
      obtain ⟨j, m, hj, rfl, rfl, hq0, hq1, HL, HB⟩ := hrel
      by_cases hlt : j < n
      · have hji : (j : Int) < (n : Int) := by omega
        obtain ⟨⟨a, k, r, s, ps⟩, hf⟩ : ∃ f, l[j]? = some f := ⟨_, List.getElem?_eq_getElem (by rw [HN.out]; exact hlt)⟩
        obtain ⟨b, off, A', c', rfl, hbl, -, -, q0, q1, q2, q3, q4⟩ := (HS.out.below HB.out).at_ hf
        obtain ⟨g1, g2⟩ := HM.out j _ hf
        have HT := Lib.hid (szL_take hf HL.out hq0)
        clear hf
        obtain ⟨y, hy⟩ : ∃ y, szF m (a, k, r, s, ps) = y := ⟨_, rfl⟩
        have hyc := szF_cases m (a, k, r, s, ps)
        have hyl : 0 ≤ y → y ≤ m := fun h => by rw [← hy] at h ⊢; exact (szF_le h).1
        rw [hy] at HT hyc
        have HY := Lib.hid hy
        clear hy
        go_wp2_with fail
        refine (szFeature_is a k r s A' c' ps m y _ hq0 hq1 g1 g2 HY.out).mono ?_
        rintro e w1 ⟨rfl, hb1⟩
        have HB1 := Lib.hid (HB.out.trans (hb1.mono HB.out.size))
        clear hb1 q0 q1 q2 q3 q4
        rcases hyc with rfl | hy0
        · have HE : Hid (z = -1) := Lib.hid (by rw [← HZ.out]; exact szL_neg (szL_bad (j := j + 1) (by rw [HT.out]; decide) hp0) hp0)
          go_wp2
          go_ret
          exact ⟨by rw [HE.out]; rfl, HB1.out⟩
        · have hyn : ¬ y < 0 := by omega
          have hym := hyl hy0
          go_wp2
          go_roundw
          case rel => exact ⟨j + 1, y, by omega, by go_num, rfl, hy0, by omega, Lib.hid (by rw [HT.out, if_neg (by omega)]), HB1⟩
          case measure => simp [intOf]; omega
      · obtain rfl : j = n := by omega
        have hji : ¬ (j : Int) < (j : Int) := by omega
        have HE : Hid (m = z) := Lib.hid (by rw [← HL.out, ← HZ.out, List.take_of_length_le (by rw [HN.out]; exact Nat.le_refl _)])
        go_wp2
        go_ret
        exact ⟨by rw [← HE.out]; rfl, HB.out⟩
set_option maxRecDepth 100000 in
set_option maxHeartbeats 1000000 in
theorem eqFeatureS_yes (A A' : Option Addr) (c c' : Nat) (l : List Feat) (w : World) (hs : SeesF w w.heap.size A l) (hs' : SeesF w w.heap.size A' l) (hl : l.length ≤ 1099511627776) (hp : FewP l) :
    Calls Tryz.prog 38 #[.slice A l.length c, .slice A' l.length c'] w fun e w' => e = .returned (.bool true) ∧ Below w.heap.size w w' := by
  have HS := Lib.hid hs
  have HS' := Lib.hid hs'
  have HP := Lib.hid hp
  obtain ⟨n, hn⟩ : ∃ n, l.length = n := ⟨_, rfl⟩
  have HN := Lib.hid hn
  rw [hn] at hl ⊢
  clear hs hs' hp hn
  go_enter Tryz.func38, Tryz.ntmps38
  go_wp2
  go_loopw [5] (fun iv wr => ∃ j : Nat, j ≤ n ∧ iv = .int .i64 j ∧ Hid (Below w.heap.size w wr)) (fun iv _ => n - (intOf iv).toNat)
  case atStart => exact ⟨0, Nat.zero_le _, rfl, Lib.hid (Below.refl _ _)⟩
  case round =>
    obtain ⟨j, hj, rfl, HB⟩ := hrel
    by_cases hlt : j < n
    · have hji : (j : Int) < (n : Int) := by omega
      obtain ⟨⟨a, k, r, s, ps⟩, hf⟩ : ∃ f, l[j]? = some f := ⟨_, List.getElem?_eq_getElem (by rw [HN.out]; exact hlt)⟩
      obtain ⟨b, off, A1, c1, rfl, hbl, h1, -, q0, q1, q2, q3, q4⟩ := HS.out.at_ hf
      obtain ⟨b2, off2, A2, c2, rfl, hbl2, h2, -, p0, p1, p2, p3, p4⟩ := HS'.out.at_ hf
      have hpl : ps.length ≤ 1099511627776 := Nat.le_trans (HP.out j _ hf) (by decide)
      have HB0 := Lib.hid HB.out.drew
      have HQ : Hid (∀ W, Below w.heap.size w W → W.cell? ⟨b, off + j * 5, none⟩ = some (.int .i64 a) ∧ W.cell? ⟨b, off + j * 5 + 1, none⟩ = some (.int .i64 k) ∧ W.cell? ⟨b, off + j * 5 + 2, none⟩ = some (.int .i64 r) ∧ W.cell? ⟨b, off + j * 5 + 3, none⟩ = some (.string s) ∧ W.cell? ⟨b, off + j * 5 + 4, none⟩ = some (.slice A1 ps.length c1) ∧ W.cell? ⟨b2, off2 + j * 5, none⟩ = some (.int .i64 a) ∧ W.cell? ⟨b2, off2 + j * 5 + 1, none⟩ = some (.int .i64 k) ∧ W.cell? ⟨b2, off2 + j * 5 + 2, none⟩ = some (.int .i64 r) ∧ W.cell? ⟨b2, off2 + j * 5 + 3, none⟩ = some (.string s) ∧ W.cell? ⟨b2, off2 + j * 5 + 4, none⟩ = some (.slice A2 ps.length c2)) := Lib.hid fun W hW => ⟨(hW.cell (p := ⟨b, off + j * 5, none⟩) hbl).trans q0, (hW.cell (p := ⟨b, off + j * 5 + 1, none⟩) hbl).trans q1, (hW.cell (p := ⟨b, off + j * 5 + 2, none⟩) hbl).trans q2, (hW.cell (p := ⟨b, off + j * 5 + 3, none⟩) hbl).trans q3, (hW.cell (p := ⟨b, off + j * 5 + 4, none⟩) hbl).trans q4, (hW.cell (p := ⟨b2, off2 + j * 5, none⟩) hbl2).trans p0, (hW.cell (p := ⟨b2, off2 + j * 5 + 1, none⟩) hbl2).trans p1, (hW.cell (p := ⟨b2, off2 + j * 5 + 2, none⟩) hbl2).trans p2, (hW.cell (p := ⟨b2, off2 + j * 5 + 3, none⟩) hbl2).trans p3, (hW.cell (p := ⟨b2, off2 + j * 5 + 4, none⟩) hbl2).trans p4⟩
      have H1 := Lib.hid ((h1.below HB.out.drew).mono HB.out.drew.size)
      have H2 := Lib.hid ((h2.below HB.out.drew).mono HB.out.drew.size)
      clear hf h1 h2 q0 q1 q2 q3 q4 p0 p1 p2 p3 p4
      go_wp2_with fail
      go_region_held3 (fun w' => w'.cell? ⟨b, off + j * 5, none⟩ = some (.int .i64 a) ∧ w'.cell? ⟨b, off + j * 5 + 1, none⟩ = some (.int .i64 k) ∧ w'.cell? ⟨b, off + j * 5 + 2, none⟩ = some (.int .i64 r) ∧ w'.cell? ⟨b, off + j * 5 + 3, none⟩ = some (.string s) ∧ w'.cell? ⟨b, off + j * 5 + 4, none⟩ = some (.slice A1 ps.length c1) ∧ w'.cell? ⟨b2, off2 + j * 5, none⟩ = some (.int .i64 a) ∧ w'.cell? ⟨b2, off2 + j * 5 + 1, none⟩ = some (.int .i64 k) ∧ w'.cell? ⟨b2, off2 + j * 5 + 2, none⟩ = some (.int .i64 r) ∧ w'.cell? ⟨b2, off2 + j * 5 + 3, none⟩ = some (.string s) ∧ w'.cell? ⟨b2, off2 + j * 5 + 4, none⟩ = some (.slice A2 ps.length c2)) (first | with_reducible exact HQ.out _ HB0.out | with_reducible exact HQ.out _ HB9.out | fail) (first
        | (go_at_call 30; (with_reducible refine (eqFeature_yes a k r s A1 A2 c1 c2 ps ps _ H1.out H2.out rfl hpl).mono ?_); rintro e w9 ⟨rfl, hb9⟩; have HB9 := Lib.hid (HB0.out.trans (hb9.mono HB0.out.size)))
        | fail)
      all_goals
        go_wp2
        go_roundw
        case rel => exact ⟨j + 1, by omega, by go_num, HB9⟩
        case measure => simp [intOf]; omega
    · obtain rfl : j = n := by omega
      have hji : ¬ (j : Int) < (j : Int) := by omega
      go_wp2
      go_ret
      exact ⟨rfl, HB.out⟩
end Go.Proofs.YtbnjaaegbmhopaaGreatDoor
end
section
/- How far the marks go. -/
namespace Go.Proofs.YtbnjaaegbmhopaaGreatDoor
open Go.ChangeShapes Go.WideShapes Go.ChangeAt Go.RowKit
set_option linter.unusedVariables false

def ptsF : List Feat → Nat
  | [] => 0
  | f :: t => f.2.2.2.2.length + ptsF t
theorem ptsF_app (l l2 : List Feat) : ptsF (l ++ l2) = ptsF l + ptsF l2 := by
  induction l with
  | nil => simp [ptsF]
  | cons f t ih => simp only [List.cons_append, ptsF, ih]; omega
theorem mkFq_eq (l : List Feat) : ∀ k, mkFq k l = k + 4 * l.length + 2 * ptsF l := by
  induction l with
  | nil => intro k; simp [mkFq, ptsF]
  | cons f t ih => intro k; simp only [mkFq, ptsF, ih, mkFn, List.length_cons]; omega
theorem ptsF_sub {l l2 : List Feat} (h : l.Sublist l2) : ptsF l ≤ ptsF l2 := by
  induction h with
  | slnil => exact Nat.le_refl _
  | cons a _ ih => simp only [ptsF]; omega
  | cons_cons a _ ih => simp only [ptsF]; omega
theorem szL_pts (l : List Feat) : ∀ left : Int, 0 ≤ left → 0 ≤ szL left l → (ptsF l : Int) ≤ left := by
  induction l with
  | nil => intro left h _; simpa [ptsF] using h
  | cons f t ih =>
    intro left h0 h
    unfold szL at h
    split at h
    · omega
    · next hn =>
      have h1 := ih (szF left f) (by omega) h
      have h2 : szF left f + f.2.2.2.2.length ≤ left := by
        unfold szF at hn ⊢
        split
        · next h3 => rw [if_pos h3] at hn; omega
        · next h3 =>
          rw [if_neg h3] at hn
          split
          · next h4 => rw [if_pos h4] at hn; omega
          · omega
      simp only [ptsF]
      omega
theorem szS_pts {l : List Feat} {left : Int} (h : 0 ≤ szS left l) : (ptsF l : Int) + l.length ≤ left := by
  unfold szS at h
  split at h
  · omega
  · next hn => have := szL_pts l (left - l.length) (by omega) h; omega
theorem rest_subl (l : List Feat) (i : Int) : (restV l i).Sublist (l.drop (cutK l i)) := rest_sub l i
theorem putOut_pts (l : List Feat) (f : Feat) : ptsF (putOut l f) ≤ ptsF l + f.2.2.2.2.length ∧ (putOut l f).length ≤ l.length + 1 := by
  have h1 : ptsF l = ptsF (l.take (cutK l f.1)) + ptsF (l.drop (cutK l f.1)) := by rw [← ptsF_app, List.take_append_drop]
  have h2 := ptsF_sub (rest_sub l f.1)
  have h3 := (rest_sub l f.1).length_le
  have h4 := cut_le l f.1
  unfold putOut
  rw [ptsF_app, ptsF_app]
  simp only [ptsF, List.length_append, List.length_take, List.length_drop, List.length_cons, List.length_nil] at h3 ⊢
  omega
theorem putV_pts (l : List Feat) (f : Feat) : ptsF (putV l f).1 ≤ ptsF l + f.2.2.2.2.length ∧ (putV l f).1.length ≤ l.length + 1 := by
  unfold putV
  split
  · exact putOut_pts l f
  · exact ⟨Nat.le_add_right _ _, Nat.le_succ _⟩
theorem takeV_pts (l : List Feat) (i : Int) : ptsF (takeV l i).1 ≤ ptsF l ∧ (takeV l i).1.length ≤ l.length := by
  unfold takeV
  split
  · have h1 : ptsF l = ptsF (l.take (findV l i).toNat) + ptsF (l.drop (findV l i).toNat) := by rw [← ptsF_app, List.take_append_drop]
    have hs : (l.drop ((findV l i).toNat + 1)).Sublist (l.drop (findV l i).toNat) := by
      rw [← List.drop_drop]; exact List.drop_sublist _ _
    have h2 := ptsF_sub hs
    rw [ptsF_app]
    simp only [List.length_append, List.length_take, List.length_drop]
    exact ⟨by omega, by omega⟩
  · exact ⟨Nat.le_refl _, Nat.le_refl _⟩
end Go.Proofs.YtbnjaaegbmhopaaGreatDoor
end
section
/- Small features, and frames of what a law holds while it marks: for the exact laws. -/
namespace Go.Proofs.YtbnjaaegbmhopaaGreatDoor
open Go.ChangeShapes Go.WideShapes Go.ChangeAt Go.RowKit
set_option linter.unusedVariables false

theorem few_pts {l : List Feat} (h : ptsF l ≤ 274877906944) : FewP l := by
  have key : ∀ (l : List Feat) (f : Feat), f ∈ l → f.2.2.2.2.length ≤ ptsF l := by
    intro l
    induction l with
    | nil => intro f h; simp at h
    | cons g t ih =>
      intro f h
      simp only [ptsF]
      rcases List.mem_cons.1 h with rfl | h
      · omega
      · have := ih f h; omega
  intro j f hf
  exact Nat.le_trans (key l f (List.mem_of_getElem? hf)) h
theorem small_le {left : Int} {l : List Feat} (hl : left ≤ 1048576) (h : 0 ≤ szS left l) : l.length ≤ 1048576 ∧ SmallF l ∧ ptsF l ≤ 1048576 ∧ szS left l ≤ left := by
  obtain ⟨h1, h4, h2⟩ := szS_ok h
  have h3 := szS_pts h
  refine ⟨by omega, fun j f hf => ?_, by omega, h4⟩
  have := h2 f (List.mem_of_getElem? hf)
  unfold maxLen
  omega
section
variable {w0 w w' : World} {l : List (Array Value)} {m b lo hi : Nat} {cs : Array Value}
theorem Vars.within (h : Vars w0 w l) (hw : Within lo hi w w') (hlo : w0.heap.size + l.length ≤ lo) : Vars w0 w' l := by
  refine ⟨h.1.trans (hw.below (B := w0.heap.size) (by omega) h.1.size), Nat.le_trans h.2.1 hw.size, fun j x hj => ?_⟩
  have hl : j < l.length := (List.getElem?_eq_some_iff.1 hj).1
  have h2 := h.2.1
  obtain ⟨T, h3⟩ := h.2.2 j x hj
  exact ⟨T, (hw.block _ (by omega) (.inl (by omega))).trans h3⟩
theorem OneV.within (h : OneV m w b cs) (hw : Within lo hi w w') (hb : b < lo ∨ hi ≤ b) : OneV m w' b cs := by
  have hl := h.lt
  obtain ⟨h1, T, h3⟩ := h
  exact ⟨h1, T, (hw.block _ hl hb).trans h3⟩
theorem OneV.five {v0 v1 v2 v3 v4 : Value} (h : OneV m w b #[v0, v1, v2, v3, v4]) : w.cell? ⟨b, 0, none⟩ = some v0 ∧ w.cell? ⟨b, 1, none⟩ = some v1 ∧ w.cell? ⟨b, 2, none⟩ = some v2 ∧ w.cell? ⟨b, 3, none⟩ = some v3 ∧ w.cell? ⟨b, 4, none⟩ = some v4 :=
  ⟨h.cell 0 rfl, h.cell 1 rfl, h.cell 2 rfl, h.cell 3 rfl, h.cell 4 rfl⟩
theorem Vars.fiveAt {v0 v1 v2 v3 v4 : Value} (h : Vars w0 w l) (b j : Nat) (hb : b = w0.heap.size + j) (hj : l[j]? = some #[v0, v1, v2, v3, v4]) : w.cell? ⟨b, 0, none⟩ = some v0 ∧ w.cell? ⟨b, 1, none⟩ = some v1 ∧ w.cell? ⟨b, 2, none⟩ = some v2 ∧ w.cell? ⟨b, 3, none⟩ = some v3 ∧ w.cell? ⟨b, 4, none⟩ = some v4 :=
  ⟨h.cell _ j 0 hb hj rfl, h.cell _ j 1 hb hj rfl, h.cell _ j 2 hb hj rfl, h.cell _ j 3 hb hj rfl, h.cell _ j 4 hb hj rfl⟩
end
theorem HeldE.wits {α : Type} {n : Nat} {enc : α → List Value} {w w' : World} {lo hi : Nat} {e : TypeId} {v : Value} {L : List α} (h : HeldE n enc w lo hi e v L) (hg : w.grownBy w' v.ownBlock) : Within lo hi w w' :=
  Within.grown hg fun g hg' => ⟨(h.1.lt g hg').1, h.2.1 g hg'⟩
theorem HeldE.caps {α : Type} {n : Nat} {enc : α → List Value} {w : World} {lo hi m c : Nat} {e : TypeId} {A : Option Addr} {L : List α} (h : HeldE n enc w lo hi e (.slice A m c) L) : L.length ≤ c ∧ (c : Int) ≤ 9223372036854775807 := (own_caps h.1).2
theorem HeldF.caps {w : World} {lo hi m c : Nat} {A : Option Addr} {l : List Feat} (h : HeldF w lo hi (.slice A m c) l) : l.length ≤ c ∧ (c : Int) ≤ 9223372036854775807 := own_capsF h.own
end Go.Proofs.YtbnjaaegbmhopaaGreatDoor
end
section
/- A point as an argument of a law: opened to its two integers. -/
namespace Go.Proofs.YtbnjaaegbmhopaaGreatDoor
open Go.ChangeShapes Go.WideShapes Go.ChangeAt Go.RowKit Go.Joins
set_option linter.unusedVariables false

set_option maxRecDepth 100000 in
theorem cellsPt : Tryz.prog.cellsOf 144 = 2 := by kernel_rfl
set_option maxRecDepth 100000 in
theorem open_pt {H : Type} {enc : TypeId × Value → H} {W : World} {base b0 : Nat} {spare : Nat → Bool} {held : Bool} {r : Reach} {v : Value} {d : DataW H} {p : List MemPlace}
    (hv : Value.okWide Tryz.prog W r b0 144 v) (h : DataW.Trod enc Tryz.prog W base spare held 144 v d p) :
    ∃ x y : Int, v = PtV x y ∧ (Lit.int .i64 x).wf = true ∧ (Lit.int .i64 y).wf = true := by
  obtain ⟨c0, c1, y0, y1, m, rfl, rfl, rfl, hy0, hy1⟩ := open_agg2 Tryz.underlying144 (by kernel_rfl) cellsPt hv h
  obtain ⟨a, e0, rfl, wa⟩ := DataW.trod_int Tryz.underlying3 hy0
  obtain ⟨b, e1, rfl, wb⟩ := DataW.trod_int Tryz.underlying3 hy1
  simp at e0 e1
  subst e0 e1
  exact ⟨a, b, rfl, wa, wb⟩
end Go.Proofs.YtbnjaaegbmhopaaGreatDoor
end
section
/- A slice of points as an argument of a law: opened to a list of pairs. -/
namespace Go.Proofs.YtbnjaaegbmhopaaGreatDoor
open Go.ChangeShapes Go.WideShapes Go.ChangeAt Go.RowKit Go.Joins
set_option linter.unusedVariables false
set_option maxRecDepth 100000

/-- A slice argument that shows l. -/
def ShowsP (w : World) (a : Option Addr) (len : Nat) (l : List (Int × Int)) : Prop := len = l.length ∧ SeesE 2 encPoint w w.heap.size a l ∧ l.length ≤ 9223372036854775807
theorem trod_pt {H : Type} {enc : TypeId × Value → H} {W : World} {base : Nat} {spare : Nat → Bool} {held : Bool} {n : Nat} {cs : List Value} {y : DataW H × List MemPlace}
    (h : DataW.trod enc Tryz.prog W base spare held n 144 cs = some y) : ∃ a b : Int, cs = [.int .i64 a, .int .i64 b] := by
  obtain ⟨y0, y1, m, hx, hlen, h0, h1⟩ := trod_struct2 Tryz.underlying144 h
  obtain ⟨c0, c1, rfl⟩ : ∃ c0 c1, cs = [c0, c1] := by
    rw [cellsPt] at hlen
    match cs, hlen with
    | [c0, c1], _ => exact ⟨c0, c1, rfl⟩
  have hc : Tryz.prog.cellsOf 3 = 1 := by kernel_rfl
  have h0' := h0; have h1' := h1
  simp [hc] at h0'
  simp [hc] at h1'
  obtain ⟨a, e0, -, -⟩ := DataW.trod_int Tryz.underlying3 h0'
  obtain ⟨b, e1, -, -⟩ := DataW.trod_int Tryz.underlying3 h1'
  simp at e0 e1
  subst e0 e1
  exact ⟨a, b, rfl⟩
theorem open_pts {H : Type} {enc : TypeId × Value → H} {W : World} {base b0 : Nat} {spare : Nat → Bool} {held : Bool} {r : Reach} {v : Value} {d : DataW H} {p : List MemPlace}
    (hv : Value.okWide Tryz.prog W r b0 52 v) (h : DataW.Trod enc Tryz.prog W base spare held 52 v d p) :
    ∃ (a : Option Addr) (len cap : Nat) (l : List (Int × Int)), v = .slice a len cap ∧ ShowsP W a len l := by
  obtain ⟨a, len, cap, rfl⟩ := okWide_slice Tryz.underlying52 hv
  obtain ⟨fuel, hf⟩ := h
  rcases DataW.trod_slice Tryz.underlying52 hf with ⟨hcs, -⟩ | ⟨ad, l', c', elems, rest, n, -, hcs, -, hb, hl, hm, hlen, hel, -, -⟩
  · simp [Value.cells] at hcs
    obtain ⟨rfl, rfl, rfl⟩ := hcs
    exact ⟨none, 0, 0, [], rfl, rfl, SeesE.nil, by simp⟩
  · simp [Value.cells] at hcs
    obtain ⟨rfl, rfl, rfl⟩ := hcs
    obtain ⟨b, off, spot⟩ := ad
    have each : ∀ i, i < len → ∃ x : Int × Int, W.cell? ((⟨b, off, spot⟩ : Addr).add (i * 2)) = some (.int .i64 x.1) ∧ W.cell? (((⟨b, off, spot⟩ : Addr).add (i * 2)).add 1) = some (.int .i64 x.2) := by
      intro i hi
      obtain ⟨y, hy⟩ : ∃ y, elems[i]? = some y := ⟨_, List.getElem?_eq_getElem (by omega)⟩
      have h1 := hel i hi
      rw [hy, cellsPt, Option.bind_eq_some_iff] at h1
      obtain ⟨cs, hcs, ht⟩ := h1
      obtain ⟨a, b, rfl⟩ := trod_pt ht
      have h2 := (World.cells?_some hcs).2.2
      exact ⟨(a, b), by have := h2 0 (by omega); simpa [Addr.add] using this, by have := h2 1 (by omega); simpa using this⟩
    have hf2 : ∀ i : Nat, ∃ x : Int × Int, i < len → W.cell? ((⟨b, off, spot⟩ : Addr).add (i * 2)) = some (.int .i64 x.1) ∧ W.cell? (((⟨b, off, spot⟩ : Addr).add (i * 2)).add 1) = some (.int .i64 x.2) := fun i => by
      by_cases hi : i < len
      · obtain ⟨x, hx⟩ := each i hi; exact ⟨x, fun _ => hx⟩
      · exact ⟨(0, 0), fun h => absurd h hi⟩
    let f : Nat → Int × Int := fun i => Classical.choose (hf2 i)
    have hff : ∀ i, i < len → W.cell? ((⟨b, off, spot⟩ : Addr).add (i * 2)) = some (.int .i64 (f i).1) ∧ W.cell? (((⟨b, off, spot⟩ : Addr).add (i * 2)).add 1) = some (.int .i64 (f i).2) := fun i => Classical.choose_spec (hf2 i)
    clear_value f
    refine ⟨_, _, _, (List.range len).map f, rfl, by simp, fun j x hj => ?_, by unfold maxLen at hm; simp; omega⟩
    simp only [List.getElem?_map, Option.map_eq_some_iff] at hj
    obtain ⟨i, hi, rfl⟩ := hj
    have hil : i < len := by have := List.mem_of_getElem? hi; simpa using this
    obtain rfl : i = j := by
      have := (List.getElem?_eq_some_iff.1 hi).2
      simpa using this.symm
    have hspot : spot = none := by
      have h0 := (hff 0 (by omega)).1
      simpa [Addr.add] using World.cell?_spot h0
    subst hspot
    obtain ⟨g0, g1⟩ := hff i hil
    rw [add_none] at g0 g1
    rw [add_none] at g1
    refine ⟨b, off, rfl, World.block_lt_of_cell? W _ g0, fun k u hu => ?_⟩
    match k, hu with
    | 0, hu => simp [encPoint] at hu; subst hu; exact g0
    | 1, hu => simp [encPoint] at hu; subst hu; exact g1
    | k + 2, hu => simp [encPoint] at hu
end Go.Proofs.YtbnjaaegbmhopaaGreatDoor
end
section
/- A feature, and a slice of features, as arguments of a law. -/
namespace Go.Proofs.YtbnjaaegbmhopaaGreatDoor
open Go.ChangeShapes Go.WideShapes Go.ChangeAt Go.RowKit Go.Joins
set_option linter.unusedVariables false
set_option maxRecDepth 100000

section
variable {H : Type} {enc : TypeId × Value → H} {W : World} {base b0 : Nat} {spare : Nat → Bool} {held : Bool} {n : Nat} {cs : List Value} {y : DataW H × List MemPlace}
theorem trod_pts (h : DataW.trod enc Tryz.prog W base spare held n 52 cs = some y) :
    ∃ (a : Option Addr) (len cap : Nat) (l : List (Int × Int)), cs = [.slice a len cap] ∧ ShowsP W a len l ∧ len ≤ cap ∧ (cap : Int) ≤ 9223372036854775807 := by
  rcases DataW.trod_slice Tryz.underlying52 h with ⟨hcs, -⟩ | ⟨ad, len, cap, elems, rest, m, -, hcs, -, hb, hl, hm, hlen, hel, -, -⟩
  · exact ⟨none, 0, 0, [], hcs, ⟨rfl, SeesE.nil, by simp⟩, Nat.le_refl _, by decide⟩
  · obtain ⟨b, off, spot⟩ := ad
    have each : ∀ i, i < len → ∃ x : Int × Int, W.cell? ((⟨b, off, spot⟩ : Addr).add (i * 2)) = some (.int .i64 x.1) ∧ W.cell? (((⟨b, off, spot⟩ : Addr).add (i * 2)).add 1) = some (.int .i64 x.2) := by
      intro i hi
      obtain ⟨y, hy⟩ : ∃ y, elems[i]? = some y := ⟨_, List.getElem?_eq_getElem (by omega)⟩
      have h1 := hel i hi
      rw [hy, cellsPt, Option.bind_eq_some_iff] at h1
      obtain ⟨cs, hcs, ht⟩ := h1
      obtain ⟨a, b, rfl⟩ := trod_pt ht
      have h2 := (World.cells?_some hcs).2.2
      exact ⟨(a, b), by have := h2 0 (by omega); simpa [Addr.add] using this, by have := h2 1 (by omega); simpa using this⟩
    have hf2 : ∀ i : Nat, ∃ x : Int × Int, i < len → W.cell? ((⟨b, off, spot⟩ : Addr).add (i * 2)) = some (.int .i64 x.1) ∧ W.cell? (((⟨b, off, spot⟩ : Addr).add (i * 2)).add 1) = some (.int .i64 x.2) := fun i => by
      by_cases hi : i < len
      · obtain ⟨x, hx⟩ := each i hi; exact ⟨x, fun _ => hx⟩
      · exact ⟨(0, 0), fun h => absurd h hi⟩
    let f : Nat → Int × Int := fun i => Classical.choose (hf2 i)
    have hff : ∀ i, i < len → W.cell? ((⟨b, off, spot⟩ : Addr).add (i * 2)) = some (.int .i64 (f i).1) ∧ W.cell? (((⟨b, off, spot⟩ : Addr).add (i * 2)).add 1) = some (.int .i64 (f i).2) := fun i => Classical.choose_spec (hf2 i)
    clear_value f
    refine ⟨_, _, _, (List.range len).map f, hcs, ⟨by simp, fun j x hj => ?_, by unfold maxLen at hm; simp; omega⟩, hl, by unfold maxLen at hm; omega⟩
    simp only [List.getElem?_map, Option.map_eq_some_iff] at hj
    obtain ⟨i, hi, rfl⟩ := hj
    have hil : i < len := by have := List.mem_of_getElem? hi; simpa using this
    obtain rfl : i = j := by
      have := (List.getElem?_eq_some_iff.1 hi).2
      simpa using this.symm
    have hspot : spot = none := by
      have h0 := (hff 0 (by omega)).1
      simpa [Addr.add] using World.cell?_spot h0
    subst hspot
    obtain ⟨g0, g1⟩ := hff i hil
    rw [add_none] at g0 g1
    rw [add_none] at g1
    refine ⟨b, off, rfl, World.block_lt_of_cell? W _ g0, fun k u hu => ?_⟩
    match k, hu with
    | 0, hu => simp [encPoint] at hu; subst hu; exact g0
    | 1, hu => simp [encPoint] at hu; subst hu; exact g1
    | k + 2, hu => simp [encPoint] at hu
theorem trod_struct5 {P : Program} {t : TypeId} {f0 f1 f2 f3 f4 : Field} {fuel : Nat} {x : DataW H × List MemPlace} (ht : P.underlying t = some (.struct #[f0, f1, f2, f3, f4])) (h : DataW.trod enc P W base spare held fuel t cs = some x) :
    ∃ y0 y1 y2 y3 y4 m, cs.length = P.cellsOf t ∧ DataW.trod enc P W base spare held m f0.type ((cs.drop f0.offset).take (P.cellsOf f0.type)) = some y0 ∧ DataW.trod enc P W base spare held m f1.type ((cs.drop f1.offset).take (P.cellsOf f1.type)) = some y1 ∧
      DataW.trod enc P W base spare held m f2.type ((cs.drop f2.offset).take (P.cellsOf f2.type)) = some y2 ∧ DataW.trod enc P W base spare held m f3.type ((cs.drop f3.offset).take (P.cellsOf f3.type)) = some y3 ∧ DataW.trod enc P W base spare held m f4.type ((cs.drop f4.offset).take (P.cellsOf f4.type)) = some y4 := by
  obtain ⟨xs, m, _, rfl, hl, hlen, hf⟩ := DataW.trod_struct ht h
  match xs, hlen with
  | [y0, y1, y2, y3, y4], _ => exact ⟨y0, y1, y2, y3, y4, m, hl, by simpa using hf 0 f0 rfl, by simpa using hf 1 f1 rfl, by simpa using hf 2 f2 rfl, by simpa using hf 3 f3 rfl, by simpa using hf 4 f4 rfl⟩
theorem szOfFeature : Tryz.prog.cellsOf 54 = 5 := by kernel_rfl
theorem szOfInt : Tryz.prog.cellsOf 3 = 1 := by kernel_rfl
theorem szOfString : Tryz.prog.cellsOf 9 = 1 := by kernel_rfl
theorem szOfPts : Tryz.prog.cellsOf 52 = 1 := by kernel_rfl
theorem trod_feat (h : DataW.trod enc Tryz.prog W base spare held n 54 cs = some y) :
    ∃ (a k r : Int) (s : ByteArray) (A : Option Addr) (m c : Nat) (ps : List (Int × Int)), cs = [.int .i64 a, .int .i64 k, .int .i64 r, .string s, .slice A m c] ∧ s.size ≤ maxLen ∧ ShowsP W A m ps ∧ m ≤ c ∧ (c : Int) ≤ 9223372036854775807 := by
  obtain ⟨y0, y1, y2, y3, y4, m, hlen, h0, h1, h2, h3, h4⟩ := trod_struct5 Tryz.underlying54 h
  rw [szOfFeature] at hlen
  obtain ⟨c0, c1, c2, c3, c4, rfl⟩ : ∃ c0 c1 c2 c3 c4, cs = [c0, c1, c2, c3, c4] := by
    match cs, hlen with
    | [c0, c1, c2, c3, c4], _ => exact ⟨c0, c1, c2, c3, c4, rfl⟩
  simp [szOfInt, szOfString, szOfPts] at h0 h1 h2 h3 h4
  obtain ⟨a, e0, -, -⟩ := DataW.trod_int Tryz.underlying3 h0
  obtain ⟨k, e1, -, -⟩ := DataW.trod_int Tryz.underlying3 h1
  obtain ⟨r, e2, -, -⟩ := DataW.trod_int Tryz.underlying3 h2
  obtain ⟨s, e3, -, hs⟩ := DataW.trod_string Tryz.underlying9 h3
  obtain ⟨A, len, cap, l, e4, hl, hc, hm⟩ := trod_pts h4
  simp at e0 e1 e2 e3 e4
  subst e0 e1 e2 e3 e4
  exact ⟨a, k, r, s, A, len, cap, l, rfl, hs, hl, hc, hm⟩
end
/-- A feature as an argument. -/
def ShowsFt (w : World) (s : ByteArray) (A : Option Addr) (m c : Nat) (ps : List (Int × Int)) : Prop := s.size ≤ maxLen ∧ ShowsP w A m ps ∧ m ≤ c ∧ (c : Int) ≤ 9223372036854775807
theorem open_feat {H : Type} {enc : TypeId × Value → H} {W : World} {base b0 : Nat} {spare : Nat → Bool} {held : Bool} {r : Reach} {v : Value} {d : DataW H} {p : List MemPlace}
    (hv : Value.okWide Tryz.prog W r b0 54 v) (h : DataW.Trod enc Tryz.prog W base spare held 54 v d p) :
    ∃ (a k rk : Int) (s : ByteArray) (A : Option Addr) (m c : Nat) (ps : List (Int × Int)), v = FtV a k rk s A m c ∧ ShowsFt W s A m c ps := by
  obtain ⟨cs, rfl, hsz⟩ := okWide_struct Tryz.underlying54 hv
  obtain ⟨fuel, hf⟩ := h
  obtain ⟨a, k, rk, s, A, m, c, ps, e, h1, h2, h3, h4⟩ := trod_feat hf
  refine ⟨a, k, rk, s, A, m, c, ps, ?_, h1, h2, h3, h4⟩
  simp only [Value.cells] at e
  have : cs = #[.int .i64 a, .int .i64 k, .int .i64 rk, .string s, .slice A m c] := by
    apply Array.toList_inj.1
    simpa using e
  rw [this]
/-- A slice of features as an argument. -/
def ShowsF (w : World) (a : Option Addr) (len : Nat) (l : List Feat) : Prop := len = l.length ∧ SeesF w w.heap.size a l ∧ l.length ≤ 9223372036854775807 ∧ MachF l
theorem open_feats {H : Type} {enc : TypeId × Value → H} {W : World} {base b0 : Nat} {spare : Nat → Bool} {held : Bool} {r : Reach} {v : Value} {d : DataW H} {p : List MemPlace}
    (hv : Value.okWide Tryz.prog W r b0 63 v) (h : DataW.Trod enc Tryz.prog W base spare held 63 v d p) :
    ∃ (a : Option Addr) (len cap : Nat) (l : List Feat), v = .slice a len cap ∧ ShowsF W a len l := by
  obtain ⟨a, len, cap, rfl⟩ := okWide_slice Tryz.underlying63 hv
  obtain ⟨fuel, hf⟩ := h
  rcases DataW.trod_slice Tryz.underlying63 hf with ⟨hcs, -⟩ | ⟨ad, l', c', elems, rest, n, -, hcs, -, hb, hl, hm, hlen, hel, -, -⟩
  · simp [Value.cells] at hcs
    obtain ⟨rfl, rfl, rfl⟩ := hcs
    exact ⟨none, 0, 0, [], rfl, rfl, SeesF.nil, by simp, fun j f hf => by simp at hf⟩
  · simp [Value.cells] at hcs
    obtain ⟨rfl, rfl, rfl⟩ := hcs
    obtain ⟨b, off, spot⟩ := ad
    have each : ∀ i, i < len → ∃ z : FCel × Feat, (∀ k u, (encF z.1)[k]? = some u → W.cell? (((⟨b, off, spot⟩ : Addr).add (i * 5)).add k) = some u) ∧ Deep W W.heap.size z.1 z.2 ∧ z.2.2.2.2.1.size ≤ maxLen ∧ z.2.2.2.2.2.length ≤ 9223372036854775807 := by
      intro i hi
      obtain ⟨y, hy⟩ : ∃ y, elems[i]? = some y := ⟨_, List.getElem?_eq_getElem (by omega)⟩
      have h1 := hel i hi
      rw [hy, szOfFeature, Option.bind_eq_some_iff] at h1
      obtain ⟨cs, hcs, ht⟩ := h1
      obtain ⟨a, k, r, s, A, m, c, ps, rfl, hs, ⟨hp1, hp2, hp3⟩, hc, hc2⟩ := trod_feat ht
      have h2 := (World.cells?_some hcs).2.2
      refine ⟨((a, k, r, s, A, m, c), (a, k, r, s, ps)), fun q u hu => ?_, ⟨rfl, rfl, rfl, rfl, hp1, hp2, by dsimp only; omega, hc2⟩, hs, hp3⟩
      have hq : q < 5 := by have := (List.getElem?_eq_some_iff.1 hu).1; simpa [encF] using this
      have h3 := h2 q hq
      rw [h3]
      exact hu
    have hf2 : ∀ i : Nat, ∃ z : FCel × Feat, i < len → (∀ k u, (encF z.1)[k]? = some u → W.cell? (((⟨b, off, spot⟩ : Addr).add (i * 5)).add k) = some u) ∧ Deep W W.heap.size z.1 z.2 ∧ z.2.2.2.2.1.size ≤ maxLen ∧ z.2.2.2.2.2.length ≤ 9223372036854775807 := fun i => by
      by_cases hi : i < len
      · obtain ⟨x, hx⟩ := each i hi; exact ⟨x, fun _ => hx⟩
      · exact ⟨((0, 0, 0, ⟨#[]⟩, none, 0, 0), (0, 0, 0, ⟨#[]⟩, [])), fun h => absurd h hi⟩
    let f : Nat → FCel × Feat := fun i => Classical.choose (hf2 i)
    have hff : ∀ i, i < len → (∀ k u, (encF (f i).1)[k]? = some u → W.cell? (((⟨b, off, spot⟩ : Addr).add (i * 5)).add k) = some u) ∧ Deep W W.heap.size (f i).1 (f i).2 ∧ (f i).2.2.2.2.1.size ≤ maxLen ∧ (f i).2.2.2.2.2.length ≤ 9223372036854775807 := fun i => Classical.choose_spec (hf2 i)
    clear_value f
    have at1 : ∀ (j : Nat) x, ((List.range len).map fun i => (f i).1)[j]? = some x → j < len ∧ x = (f j).1 := fun j x hj => by
      simp only [List.getElem?_map, Option.map_eq_some_iff] at hj
      obtain ⟨i, hi, rfl⟩ := hj
      have hil : i < len := by have := List.mem_of_getElem? hi; simpa using this
      obtain rfl : i = j := by
        have := (List.getElem?_eq_some_iff.1 hi).2
        simpa using this.symm
      exact ⟨hil, rfl⟩
    have at2 : ∀ (j : Nat) x, ((List.range len).map fun i => (f i).2)[j]? = some x → j < len ∧ x = (f j).2 := fun j x hj => by
      simp only [List.getElem?_map, Option.map_eq_some_iff] at hj
      obtain ⟨i, hi, rfl⟩ := hj
      have hil : i < len := by have := List.mem_of_getElem? hi; simpa using this
      obtain rfl : i = j := by
        have := (List.getElem?_eq_some_iff.1 hi).2
        simpa using this.symm
      exact ⟨hil, rfl⟩
    refine ⟨_, _, _, (List.range len).map fun i => (f i).2, rfl, by simp, ⟨(List.range len).map fun i => (f i).1, by simp, fun j x hj => ?_, fun j x g hx hg => ?_⟩, by unfold maxLen at hm; simp; omega, fun j g hg => ?_⟩
    · obtain ⟨hjl, rfl⟩ := at1 j x hj
      have hspot : spot = none := by
        have h0 := (hff 0 (by omega)).1 0 _ rfl
        simpa [Addr.add] using World.cell?_spot h0
      subst hspot
      have hc := (hff j hjl).1
      refine ⟨b, off, rfl, ?_, fun k u hu => ?_⟩
      · have h0 := hc 0 _ rfl
        rw [add_none, add_none] at h0
        exact World.block_lt_of_cell? W _ h0
      · have h0 := hc k u hu
        rw [add_none, add_none] at h0
        exact h0
    · obtain ⟨hjl, rfl⟩ := at1 j x hx
      obtain ⟨_, rfl⟩ := at2 j g hg
      exact (hff j hjl).2.1
    · obtain ⟨hjl, rfl⟩ := at2 j g hg
      exact (hff j hjl).2.2
end Go.Proofs.YtbnjaaegbmhopaaGreatDoor
end
section
/- The exact law of MeetsOf. -/
namespace Go.Proofs.YtbnjaaegbmhopaaGreatDoor
open Go.ChangeShapes Go.WideShapes Go.ChangeAt Go.RowKit
set_option linter.unusedVariables false

set_option maxRecDepth 100000 in
set_option maxHeartbeats 4000000 in
theorem law_FnExactMeetsOf (pa0 : Option Addr) (len0 cap0 : Nat) (l0 : List Feat) (w : World) (ws0 : ShowsF w pa0 len0 l0) (a0 : Addr) (hE : ErrAt a0 w) :
    Calls Tryz.prog 6 #[.slice pa0 len0 cap0] w fun e w' => e = .returned (.bool true) ∧ Below w.heap.size w w' := by
  have HE := Lib.hid hE; clear hE
  obtain ⟨rfl, hp0, hm0, hM0⟩ := ws0
  have HP0 := Lib.hid hp0; have HM0 := Lib.hid hM0; clear hp0 hM0
  obtain ⟨R, hR⟩ : ∃ R, meetsV l0 = R := ⟨_, rfl⟩
  have HI := Lib.hid hR; clear hR
  have HV := Lib.hid (Vars.nil w)
  go_enter Tryz.func6, Tryz.ntmps6
  have hz0 : w.heap.size ≤ w.heap.size := Nat.le_refl _
  obtain ⟨m0, hmz⟩ : ∃ m, szS (1048576) l0 = m := ⟨_, rfl⟩
  have HZ0 := Lib.hid hmz; clear hmz
  go_wp2_with fail
  refine (szFeatureS_is pa0 cap0 l0 (1048576) m0 _ ((HP0.out.below HV.out.1).mono HV.out.1.size) (by omega) (by omega) hm0 HM0.out HZ0.out).mono ?_
  rintro e v1 ⟨rfl, hb⟩
  have hz1 := hb.size
  replace HV := Lib.hid (HV.out.next hb)
  clear hb
  by_cases hn0 : m0 < 0
  · go_wp2
    go_ret
    exact ⟨rfl, HV.out.1⟩
  obtain ⟨hl0, hsm0, hpt0, hq0⟩ := small_le (left := 1048576) (l := l0) (by omega) (by rw [HZ0.out]; omega)
  rw [HZ0.out] at hq0
  have HF0 := Lib.hid hsm0; clear hsm0
  have hk0 : mkFq 1 l0 ≤ 1099511627776 := by rw [mkFq_eq]; omega
  have hR1 : R.length ≤ 1048576 := by
    rw [← HI.out]
    exact Nat.le_trans (meets_len _) (by decide)
  go_wp2_with fail
  refine (toFeatureS_any pa0 cap0 l0 _ ((HP0.out.below HV.out.1).mono HV.out.1.size) (by omega) HF0.out.few).mono ?_
  rintro e v2 ⟨At0, Lt0, ct0, hLt0, rfl, hot0, hb⟩
  obtain rfl : l0 = Lt0 := hLt0.out.symm
  have HOt0 := Lib.hid hot0.held; clear hLt0 hot0
  have hz2 := hb.size
  replace HV := Lib.hid (HV.out.next hb)
  clear hb
  go_wp2_with fail
  refine (sMeetsOf_any At0 ct0 l0 _ HOt0.out.sees (by omega) HF0.out).mono ?_
  rintro e v3 ⟨As, cs, Ls, hLs, rfl, hos, hb⟩
  obtain rfl : Ls = R := hLs.out.trans HI.out
  have HOs := Lib.hid hos.held; clear hLs hos
  have hz3 := hb.size
  replace HV := Lib.hid (HV.out.next hb)
  replace HOt0 := Lib.hid (HOt0.out.belowAll hb)
  clear hb
  clear HOt0
  go_wp2_with fail
  refine (toFeatureS_any pa0 cap0 l0 _ ((HP0.out.below HV.out.1).mono HV.out.1.size) (by omega) HF0.out.few).mono ?_
  rintro e v4 ⟨Ax0, Lx0, cx0, hLx0, rfl, hox0, hb⟩
  obtain rfl : l0 = Lx0 := hLx0.out.symm
  have HOx0 := Lib.hid hox0.held; clear hLx0 hox0
  have hz4 := hb.size
  replace HV := Lib.hid (HV.out.next hb)
  replace HOs := Lib.hid (HOs.out.belowAll hb)
  clear hb
  go_wp2_with fail
  refine (meetsOf_any a0 Ax0 cx0 l0 _ (HE.out.all HV.out.1) HOx0.out.sees (by omega) HF0.out).mono ?_
  rintro e v5 ⟨Ag, cg, Lg, hLg, rfl, hog, hb⟩
  obtain rfl : Ls = Lg := HI.out.symm.trans hLg.out.symm
  have HOg := Lib.hid hog.held; clear hLg hog
  have hz5 := hb.size
  replace HV := Lib.hid (HV.out.next hb)
  replace HOs := Lib.hid (HOs.out.belowAll hb)
  replace HOx0 := Lib.hid (HOx0.out.belowAll hb)
  clear hb
  go_wp2_with fail
  refine (eqMeetS_yes Ag As cg cs Ls Ls _ (HOg.out.seesAll elMeet) (HOs.out.seesAll elMeet) rfl (by omega)).mono ?_
  rintro e v6 ⟨rfl, hb⟩
  have hz6 := hb.size
  replace HV := Lib.hid (HV.out.next hb)
  replace HOs := Lib.hid (HOs.out.belowAll hb)
  replace HOx0 := Lib.hid (HOx0.out.belowAll hb)
  replace HOg := Lib.hid (HOg.out.belowAll hb)
  clear hb
  go_wp2_with fail
  refine (toFeatureS_any pa0 cap0 l0 _ ((HP0.out.below HV.out.1).mono HV.out.1.size) (by omega) HF0.out.few).mono ?_
  rintro e v7 ⟨Ay, Ly, cy, hLy, rfl, hoy, hb⟩
  obtain rfl : l0 = Ly := hLy.out.symm
  have HOy := Lib.hid hoy.held; clear hLy hoy
  have hz7 := hb.size
  replace HV := Lib.hid (HV.out.next hb)
  replace HOs := Lib.hid (HOs.out.belowAll hb)
  replace HOx0 := Lib.hid (HOx0.out.belowAll hb)
  replace HOg := Lib.hid (HOg.out.belowAll hb)
  clear hb
  go_wp2_with fail
  refine (eqFeatureS_yes Ax0 Ay cx0 cy l0 _ HOx0.out.sees HOy.out.sees (by omega) HF0.out.few).mono ?_
  rintro e v8 ⟨rfl, hb⟩
  have hz8 := hb.size
  replace HV := Lib.hid (HV.out.next hb)
  replace HOs := Lib.hid (HOs.out.belowAll hb)
  replace HOx0 := Lib.hid (HOx0.out.belowAll hb)
  replace HOg := Lib.hid (HOg.out.belowAll hb)
  replace HOy := Lib.hid (HOy.out.belowAll hb)
  clear hb
  clear HOy
  go_wp2_with fail
  refine (markFeatureS_held Ax0 l0.length cx0 1 _ _ l0 _ HOx0.out rfl (by omega) hk0).mono ?_
  rintro e v9 ⟨k_0, Hk_0, rfl, ho, hw⟩
  have hz9 := hw.size
  replace HV := Lib.hid (HV.out.within hw (by show w.heap.size + 0 ≤ _; omega))
  replace HOs := Lib.hid (HOs.out.within (by omega) hw)
  replace HOg := Lib.hid (HOg.out.within (by omega) hw)
  replace HOx0 := Lib.hid ho; clear ho hw
  have hkq : ¬ ((k_0 : Int) < 0) := by omega
  go_wp2_with fail
  refine (eqMeetS_yes Ag As cg cs Ls Ls _ (HOg.out.seesAll elMeet) (HOs.out.seesAll elMeet) rfl (by omega)).mono ?_
  rintro e v10 ⟨rfl, hb⟩
  have hz10 := hb.size
  replace HV := Lib.hid (HV.out.next hb)
  replace HOs := Lib.hid (HOs.out.belowAll hb)
  replace HOx0 := Lib.hid (HOx0.out.belowAll hb)
  replace HOg := Lib.hid (HOg.out.belowAll hb)
  clear hb
  clear HOx0
  go_wp2_with fail
  refine (markMeet_held Ag Ls.length cg 1 _ _ Ls _ HOg.out rfl (by omega) (by omega)).mono ?_
  rintro e v11 ⟨m, Hm, rfl, ho, hg⟩
  have hw := HOg.out.wits hg; clear hg
  have hz11 := hw.size
  replace HV := Lib.hid (HV.out.within hw (by show w.heap.size + 0 ≤ _; omega))
  replace HOs := Lib.hid (HOs.out.within (by omega) hw)
  replace HOg := Lib.hid ho; clear ho hw
  go_wp2_with fail
  refine (heldMeet_q Ag Ls.length cg 1 _ _ (HOg.out.seesAll elMeet) (by omega) (by omega)).mono ?_
  rintro e w9 ⟨q, Hq, rfl, rfl⟩
  obtain rfl : m = q := Hm.out.trans Hq.out.symm
  have hmq : ¬ ((m : Int) < 0) := by omega
  go_wp2_with fail
  refine (toFeatureS_any pa0 cap0 l0 _ ((HP0.out.below HV.out.1).mono HV.out.1.size) (by omega) HF0.out.few).mono ?_
  rintro e v13 ⟨Au0, Lu0, cu0, hLu0, rfl, hou0, hb⟩
  obtain rfl : l0 = Lu0 := hLu0.out.symm
  have HOu0 := Lib.hid hou0.held; clear hLu0 hou0
  have hz13 := hb.size
  replace HV := Lib.hid (HV.out.next hb)
  replace HOs := Lib.hid (HOs.out.belowAll hb)
  replace HOg := Lib.hid (HOg.out.belowAll hb)
  clear hb
  go_wp2_with fail
  refine (meetsOf_any a0 Au0 cu0 l0 _ (HE.out.all HV.out.1) HOu0.out.sees (by omega) HF0.out).mono ?_
  rintro e v14 ⟨Ah, ch, Lh, hLh, rfl, hoh, hb⟩
  obtain rfl : Ls = Lh := HI.out.symm.trans hLh.out.symm
  have HOh := Lib.hid hoh.held; clear hLh hoh
  have hz14 := hb.size
  replace HV := Lib.hid (HV.out.next hb)
  replace HOs := Lib.hid (HOs.out.belowAll hb)
  replace HOg := Lib.hid (HOg.out.belowAll hb)
  replace HOu0 := Lib.hid (HOu0.out.belowAll hb)
  clear hb
  go_wp2_with fail
  refine (eqMeetS_yes Ah As ch cs Ls Ls _ (HOh.out.seesAll elMeet) (HOs.out.seesAll elMeet) rfl (by omega)).mono ?_
  rintro e v15 ⟨rfl, hb⟩
  have hz15 := hb.size
  replace HV := Lib.hid (HV.out.next hb)
  replace HOs := Lib.hid (HOs.out.belowAll hb)
  replace HOg := Lib.hid (HOg.out.belowAll hb)
  replace HOu0 := Lib.hid (HOu0.out.belowAll hb)
  replace HOh := Lib.hid (HOh.out.belowAll hb)
  clear hb
  go_wp2_with fail
  refine (heldMeet_q Ag Ls.length cg 1 _ _ (HOg.out.seesAll elMeet) (by omega) (by omega)).mono ?_
  rintro e w9 ⟨q2, Hq2, rfl, rfl⟩
  obtain rfl : m = q2 := Hm.out.trans Hq2.out.symm
  go_wp2
  go_ret
  exact ⟨rfl, HV.out.1⟩
theorem law_FnExactMeetsOf_laid (w : World) (pa0 : Option Addr) (len0 cap0 : Nat) (l0 : List Feat) (ws0 : ShowsF w pa0 len0 l0) (hL : laidMet Tryz.prog Rows.fnExactMeetsOfRow.laid w) :
    Calls Tryz.prog 6 #[.slice pa0 len0 cap0] w fun e w' => e = .returned (.bool true) ∧ Below w.heap.size w w' := by
  obtain ⟨a0, hE⟩ := errAt_of hL
  exact law_FnExactMeetsOf pa0 len0 cap0 l0 w ws0 a0 hE
end Go.Proofs.YtbnjaaegbmhopaaGreatDoor
end
section
namespace Go.Proofs.YtbnjaaegbmhopaaGreatDoor.fnExactMeetsOf
open Go.ChangeShapes Go.WideShapes Go.ChangeAt Go.WideMaps Go.WideElems Go.RowKit
open Go.ChangeMaps (open_string shut_string)
set_option linter.unusedVariables false

theorem own : ownKnob Tryz.prog.godebug = none := by kernel_rfl
theorem laidOut : laidOutB Tryz.prog = true := by kernel_rfl

/-- What the package-level variables hold behind the program's own initialisers meets the row's condition. -/
theorem door_met (os : Os) (args : Array Value) : laidMetH Tryz.prog Rows.fnExactMeetsOfRow.laid ((World.doorLaid Tryz.prog 28 os).forCall (fun _ _ => 0) ⟨#[], args, []⟩).memory :=
  laidMetH_of_parts3 (fuel := 8) (laidMet_of_run' 8 (by kernel_rfl) (by kernel_rfl)) (by kernel_rfl) (by kernel_rfl)

set_option maxRecDepth 100000 in
theorem lifted (os : Os) (started : os.Started) (H : Type) (enc : TypeId × Value → H) :
    ReturnsInHanded {} Tryz.checked os 6 .any (fun w args => (Rows.fnExactMeetsOfSpec.pre enc Tryz.prog Tryz.f6 [] false w args ∧ laidMetH Tryz.prog Rows.fnExactMeetsOfRow.laid w) ∧ sizedMet enc Tryz.prog Tryz.f6 (OpenSpec.ofChange Rows.fnExactMeetsOfSpec) false w args)
      (Rows.fnExactMeetsOfSpec.post enc Tryz.prog Tryz.f6 false true false false) := by
  refine returnsInHanded_of_change_and (C := Tryz.checked) (X := fun w _ => laidMetH Tryz.prog Rows.fnExactMeetsOfRow.laid w) (fun _ _ _ hh h => h.of_heap hh) own started (by kernel_rfl) Tryz.func6
    (ChangeSpec.witness_shaped (enc := enc) (C := Tryz.checked) (os := os) (X := fun w _ => laidMetH Tryz.prog Rows.fnExactMeetsOfRow.laid w) false (World.doorLaid Tryz.prog 28 os) #[.slice none 0 0] 8 rfl (World.shaped_of_RefB (by kernel_rfl) (by kernel_rfl)) (by kernel_rfl) (by kernel_rfl) (by kernel_rfl) (door_met os _)) ?_
  intro W base args ds gs before hval0 hW _ hsz0 hL0 _
  have hsz : (DataW.weightsEach Tryz.prog (Tryz.f6.params.toList ++ Rows.fnExactMeetsOfSpec.plain.varTypes Tryz.prog) (ds ++ gs)).all (· ≤ reachBytes) = true := hsz0
  clear hsz0
  have hL : laidMet Tryz.prog Rows.fnExactMeetsOfRow.laid W := by rw [MakeChecks.laidMetH_plain _ _ _ (by kernel_rfl)] at hL0; exact hL0
  have hval : ∀ (j : Nat) t v, Tryz.f6.params[j]? = some t → args[j]? = some v → Value.okWide Tryz.prog W .any base t v := hval0
  have hW' := hW
  obtain ⟨p, q, hA0, hV, rfl, hfz, hnd⟩ := hW
  have hA : DataW.TrodAll enc Tryz.prog W 0 (fun _ => true) true Tryz.f6.params.toList args.toList ds p := hA0
  rw [Tryz.params6] at hA hval hsz
  obtain ⟨v0, vs0, d0, ds0, p0, q0, hargs, rfl, rfl, h0, r0⟩ := trodAll_cons hA
  obtain ⟨rfl, rfl, rfl⟩ := trodAll_nil r0
  obtain rfl : args = #[v0] := by cases args; simp_all
  obtain ⟨a0, hv0⟩ := errVar_of hL
  have hV1 : DataW.TrodVars enc Tryz.prog W (fun _ => true) ["loop.example/g03005/impl.errNoRing"] gs q := hV
  obtain ⟨rfl, rfl⟩ := hV1.unique (errVars enc hv0 _)
  have k0 := h0
  have lt0 : ∀ x ∈ p0, x.block < W.heap.size := by obtain ⟨m, hm⟩ := k0; exact DataW.trod_lt m _ _ _ hm
  obtain ⟨pa0, len0, cap0, l0, rfl, ws0⟩ := open_feats (hval 0 63 v0 rfl rfl) h0
  clear hA0 hval0
  refine (law_FnExactMeetsOf_laid W pa0 len0 cap0 l0 ws0 hL).mono fun e W' ⟨he, bel⟩ => ?_
  subst he
  exact ⟨_, rfl, _, _, _, [], _, _, hW', trodAll_mk1 (shut_bool Tryz.underlying4 _), (trodAll_cons_mk (Below.trod laidOut (by kernel_rfl) (of_decide_eq_true (by kernel_rfl)) k0 bel lt0) trodAll_mk0), errVars enc (errVar_below hv0 bel) _, bel.frame _, fun h => by cases h⟩

theorem over : Rows.fnExactMeetsOfRow.holds Tryz.pinned (OpenSpec.ofChange Rows.fnExactMeetsOfSpec) :=
  OpenClaim.holds_of_wide 6 Tryz.f6 rfl rfl rfl rfl rfl rfl rfl ⟨rfl, rfl, rfl, rfl, rfl⟩ rfl rfl rfl rfl rfl (by kernel_rfl) Tryz.func6 (by kernel_rfl)
    (of_decide_eq_true (by kernel_rfl)) (by unfold Func.isWrapper; first | (rw [if_pos (by decide +kernel)]; kernel_rfl) | (rw [if_neg (by decide +kernel)]; exact ⟨rfl, rfl⟩))
    (fun os started H enc _ => lifted os started H enc)

/-- THE STATEMENT. -/
theorem proved : Rows.FnExactMeetsOfCardSaid :=
  Claim7.holds_tied_plain_at .later [] [.sentinel] true (true, "4fd9553954a1f4fcd77f7bf2d22849ecbae6f39362e0ed4adff318da18115798") true
    over (fun _ h => by cases h) (by kernel_rfl) (fun _ h => by cases h) fnExactMeetsOf_row_tie rfl ⟨rfl, rfl⟩ (by kernel_rfl) rfl
    (fun f fn hf hfn => by
      obtain rfl : f = 6 := Option.some.inj ((show Tryz.prog.funcNamed "loop.example/g03005/laws.FnExactMeetsOf" = some 6 by kernel_rfl).symm.trans hf) |>.symm
      obtain rfl : fn = Tryz.f6 := (Option.some.inj (Tryz.func6.symm.trans hfn)).symm
      exact ⟨by kernel_rfl, fun j t ht => by
        rw [Tryz.params6] at ht
        have hm : t ∈ [63] := by simpa using Array.mem_of_getElem? ht
        have hall : ([63].all fun u => !Tryz.prog.wantsStandIn u) = true := by kernel_rfl
        exact (show Tryz.prog.wantsStandIn t = false by simpa using List.all_eq_true.1 hall t hm)⟩)
    (by kernel_rfl)
#print axioms proved
end Go.Proofs.YtbnjaaegbmhopaaGreatDoor.fnExactMeetsOf
end
