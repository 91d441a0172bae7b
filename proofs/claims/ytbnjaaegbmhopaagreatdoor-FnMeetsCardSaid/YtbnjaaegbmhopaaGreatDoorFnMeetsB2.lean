/- Lines: IsSimple of package impl, over meetInTurn. -/
import Derived.Test.YtbnjaaegbmhopaaGreatDoorFnMeetsB1
import Derived.Shelf.SlGeneric
import Derived.Shelf.Spec.SlicesGrow
import Derived.Ground.Names8Prog
import Derived.Shelf.SlSortCmp.WholeK
import Derived.Ground.SlsfProg
import Derived.Test.YtbnjaaegbmhopaaGreatDoorProg
import Derived.Test.YtbnjaaegbmhopaaGreatDoorHelpE
import Derived.Test.YtbnjaaegbmhopaaGreatDoorInt
import Derived.Test.YtbnjaaegbmhopaaGreatDoorRing
import Derived.Test.YtbnjaaegbmhopaaGreatDoorStepE
import Derived.Test.YtbnjaaegbmhopaaGreatDoorChecked
import Derived.WalkKit
import Derived.LaidEql
import Derived.Stop.Asserts
import Derived.RowKitTokens
import Derived.Test.YtbnjaaegbmhopaaGreatDoorFeatS
import Derived.Deep.RegionHeld3
import Derived.Deep.DeepCutAuto
import Derived.Test.YtbnjaaegbmhopaaGreatDoorFeatC
import Derived.Test.YtbnjaaegbmhopaaGreatDoorTabs
import Derived.Deep.LoopGhost
import Derived.Test.YtbnjaaegbmhopaaGreatDoorDrawFeat
import Derived.Test.YtbnjaaegbmhopaaGreatDoorDrawLine2
import Derived.Test.YtbnjaaegbmhopaaGreatDoorFeat
import Derived.Test.YtbnjaaegbmhopaaGreatDoorMeetTo
import Derived.Test.YtbnjaaegbmhopaaGreatDoorVars2
import Derived.Deep.WholeRow
import Derived.Test.YtbnjaaegbmhopaaGreatDoorLine
import Derived.LoopTactic
import Derived.Shelf.Abstract
section
/- Segments that follow one another: meetInTurn of package impl. -/
namespace Go.Proofs.YtbnjaaegbmhopaaGreatDoor
open Go.ChangeShapes Go.WideShapes Go.ChangeAt Go.RowKit
set_option linter.unusedVariables false

/-- What two segments at i < k of n should meet like; z: the last one is followed by the first one. -/
def wantC (z : Bool) (n i k : Nat) : Int := if i + 1 = k ∨ (z = true ∧ i = 0 ∧ k + 1 = n) then 1 else 0
def prOk (z : Bool) (S : List (Int × Int × Int × Int)) (i k : Nat) : Bool := match S[i]?, S[k]? with
  | some u, some v => howS u v == wantC z S.length i k
  | _, _ => true
theorem prOk_at {z : Bool} {S : List (Int × Int × Int × Int)} {i k : Nat} {u v : Int × Int × Int × Int} (h : S[i]? = some u) (h' : S[k]? = some v) : prOk z S i k = (howS u v == wantC z S.length i k) := by simp only [prOk, h, h']
/-- Do they meet in turn? -/
def turnV (z : Bool) (S : List (Int × Int × Int × Int)) : Bool := decide (∀ k, k < S.length → ∀ i, i < k → prOk z S i k = true)
theorem turn_no {z : Bool} {S : List (Int × Int × Int × Int)} {i k : Nat} {u v : Int × Int × Int × Int} (hi : S[i]? = some u) (hk : S[k]? = some v) (hik : i < k) (h : ¬ howS u v = wantC z S.length i k) : turnV z S = false :=
  decide_eq_false fun g => by
    have := g k (List.getElem?_eq_some_iff.1 hk).1 i hik
    rw [prOk_at hi hk, beq_iff_eq] at this
    exact h this
theorem turn_yes {z : Bool} {S : List (Int × Int × Int × Int)} (h : ∀ k, k < S.length → ∀ i, i < k → prOk z S i k = true) : turnV z S = true := decide_eq_true h
theorem pr_ok {z : Bool} {S : List (Int × Int × Int × Int)} {i k : Nat} {u v : Int × Int × Int × Int} (hi : S[i]? = some u) (hk : S[k]? = some v) (h : howS u v = wantC z S.length i k) : prOk z S i k = true := by
  rw [prOk_at hi hk, beq_iff_eq]; exact h
set_option maxRecDepth 100000 in
set_option maxHeartbeats 4000000 in
theorem meetRightly_is (Bs Bc Bl b off c1 B i j : Nat) (cl : Bool) (L : List (Int × Int × Int × Int)) (u v : Int × Int × Int × Int) (w : World) (hBs : w.cell? ⟨Bs, 0, none⟩ = some (.slice (some ⟨b, off, none⟩) L.length c1))
    (hBc : w.cell? ⟨Bc, 0, none⟩ = some (.bool cl)) (hBl : w.cell? ⟨Bl, 0, none⟩ = some (.int .i64 ((L.length : Int) - 1))) (hs : SeesE 4 encSegment w B (some ⟨b, off, none⟩) L) (h9 : L.length ≤ 1000)
    (hu : L[i]? = some u) (hv : L[j]? = some v) (z : Bool) (hz : decide (howS u v = wantC cl L.length i j) = z) :
    Calls Tryz.prog 116 #[.int .i64 i, .int .i64 j, .pointer (some ⟨Bs, 0, none⟩), .pointer (some ⟨Bc, 0, none⟩), .pointer (some ⟨Bl, 0, none⟩)] w fun e w' => e = .returned (.bool z) ∧ Below w.heap.size w w' := by
  have hil := (List.getElem?_eq_some_iff.1 hu).1
  have hjl := (List.getElem?_eq_some_iff.1 hv).1
  have hil' : (i : Int) < (L.length : Int) := by omega
  have hjl' : (j : Int) < (L.length : Int) := by omega
  obtain ⟨k0, k1, k2, k3⟩ := cells4 hs hu
  obtain ⟨k4, k5, k6, k7⟩ := cells4 hs hv
  obtain ⟨m, hm⟩ : ∃ m, howS u v = m := ⟨_, rfl⟩
  have HZ : Hid (decide (m = wantC cl L.length i j) = z) := Lib.hid (by rw [← hm]; exact hz)
  clear hu hv hs hz
  go_enter Tryz.func116, Tryz.ntmps116
  go_wp2
  go_region_held3 (fun w' => w'.cell? ⟨Bs, 0, none⟩ = some (.slice (some ⟨b, off, none⟩) L.length c1) ∧ (w'.cell? ⟨b, off + i * 4, none⟩ = some (.int .i64 u.1) ∧ w'.cell? ⟨b, off + i * 4 + 1, none⟩ = some (.int .i64 u.2.1) ∧ w'.cell? ⟨b, off + i * 4 + 2, none⟩ = some (.int .i64 u.2.2.1) ∧ w'.cell? ⟨b, off + i * 4 + 3, none⟩ = some (.int .i64 u.2.2.2)) ∧ (w'.cell? ⟨b, off + j * 4, none⟩ = some (.int .i64 v.1) ∧ w'.cell? ⟨b, off + j * 4 + 1, none⟩ = some (.int .i64 v.2.1) ∧ w'.cell? ⟨b, off + j * 4 + 2, none⟩ = some (.int .i64 v.2.2.1) ∧ w'.cell? ⟨b, off + j * 4 + 3, none⟩ = some (.int .i64 v.2.2.2))) (first | exact ⟨hBs, ⟨k0, k1, k2, k3⟩, ⟨k4, k5, k6, k7⟩⟩ | exact hQ) (first
    | (go_at_call 95; refine (howS_is u v _ _ hm).mono ?_; rintro e w9 ⟨rfl, hb9⟩; have hb9' := Lib.hid hb9; have hQ := And.intro ((hb9.cell (World.block_lt_of_cell? _ _ hBs)).trans hBs) (And.intro (And.intro ((hb9.cell (World.block_lt_of_cell? _ _ k0)).trans k0) (And.intro ((hb9.cell (World.block_lt_of_cell? _ _ k1)).trans k1) (And.intro ((hb9.cell (World.block_lt_of_cell? _ _ k2)).trans k2) ((hb9.cell (World.block_lt_of_cell? _ _ k3)).trans k3)))) (And.intro ((hb9.cell (World.block_lt_of_cell? _ _ k4)).trans k4) (And.intro ((hb9.cell (World.block_lt_of_cell? _ _ k5)).trans k5) (And.intro ((hb9.cell (World.block_lt_of_cell? _ _ k6)).trans k6) ((hb9.cell (World.block_lt_of_cell? _ _ k7)).trans k7)))))) | fail)
  all_goals
    have hc9 := (hb9.cell (World.block_lt_of_cell? _ _ hBc)).trans hBc
    have hl9 := (hb9.cell (World.block_lt_of_cell? _ _ hBl)).trans hBl
    by_cases he : i + 1 = j
    · have he' : (i : Int) + 1 = (j : Int) := by omega
      have hz := HZ.out
      rw [show wantC cl L.length i j = 1 from if_pos (.inl he)] at hz
      by_cases h1 : m = 1
      · subst h1
        obtain rfl : z = true := by rw [← hz]; rfl
        go_wp2
        go_ret
        exact ⟨rfl, (Below.refl _ w).drew.trans hb9⟩
      · obtain rfl : z = false := by rw [← hz, decide_eq_false h1]
        go_wp2
        go_ret
        exact ⟨by simp [h1], (Below.refl _ w).drew.trans hb9⟩
    · have he' : ¬ ((i : Int) + 1 = (j : Int)) := by omega
      have he2 : ((i : Int) + 1 == (j : Int)) = false := by simp [he']
      have hz := HZ.out
      cases cl
      · rw [show wantC false L.length i j = 0 from if_neg (by simp [he])] at hz
        by_cases h1 : m = 0
        · subst h1
          obtain rfl : z = true := by rw [← hz]; rfl
          go_wp2
          go_ret
          exact ⟨rfl, (Below.refl _ w).drew.trans hb9⟩
        · obtain rfl : z = false := by rw [← hz, decide_eq_false h1]
          go_wp2
          go_ret
          exact ⟨by simp [h1], (Below.refl _ w).drew.trans hb9⟩
      · by_cases hi0 : i = 0
        · subst hi0
          by_cases hj0 : j + 1 = L.length
          · have hj1 : ((j : Int) == (L.length : Int) - 1) = true := by simp; omega
            rw [show wantC true L.length 0 j = 1 from if_pos (.inr ⟨rfl, rfl, hj0⟩)] at hz
            by_cases h1 : m = 1
            · subst h1
              obtain rfl : z = true := by rw [← hz]; rfl
              go_wp2
              go_ret
              exact ⟨rfl, (Below.refl _ w).drew.trans hb9⟩
            · obtain rfl : z = false := by rw [← hz, decide_eq_false h1]
              go_wp2
              go_ret
              exact ⟨by simp [h1], (Below.refl _ w).drew.trans hb9⟩
          · have hj1 : ((j : Int) == (L.length : Int) - 1) = false := by simp; omega
            rw [show wantC true L.length 0 j = 0 from if_neg (by simp; omega)] at hz
            by_cases h1 : m = 0
            · subst h1
              obtain rfl : z = true := by rw [← hz]; rfl
              go_wp2
              go_ret
              exact ⟨rfl, (Below.refl _ w).drew.trans hb9⟩
            · obtain rfl : z = false := by rw [← hz, decide_eq_false h1]
              go_wp2
              go_ret
              exact ⟨by simp [h1], (Below.refl _ w).drew.trans hb9⟩
        · have hi1 : ((i : Int) == 0) = false := by simp; omega
          rw [show wantC true L.length i j = 0 from if_neg (by simp; omega)] at hz
          by_cases h1 : m = 0
          · subst h1
            obtain rfl : z = true := by rw [← hz]; rfl
            go_wp2
            go_ret
            exact ⟨rfl, (Below.refl _ w).drew.trans hb9⟩
          · obtain rfl : z = false := by rw [← hz, decide_eq_false h1]
            go_wp2
            go_ret
            exact ⟨by simp [h1], (Below.refl _ w).drew.trans hb9⟩
set_option maxRecDepth 100000 in
set_option maxHeartbeats 4000000 in
theorem meetInTurn_is (A1 : Option Addr) (c1 : Nat) (cl : Bool) (L : List (Int × Int × Int × Int)) (w : World) (hs : SeesE 4 encSegment w w.heap.size A1 L) (h9 : L.length ≤ 1000) (z : Bool) (hz : turnV cl L = z) :
    Calls Tryz.prog 78 #[.slice A1 L.length c1, .bool cl] w fun e w' => e = .returned (.bool z) ∧ Below w.heap.size w w' := by
  have HS := Lib.hid hs; clear hs
  have HZ := Lib.hid hz; clear hz
  go_enter Tryz.func78, Tryz.ntmps78
  go_wp2
  have e1 : (w.alloc (.cells #[.slice A1 L.length c1] 38)).heap.size = w.heap.size + 1 := by simp
  have e2 : ((w.alloc (.cells #[.slice A1 L.length c1] 38)).alloc (.cells #[.bool cl] 4)).heap.size = w.heap.size + 1 + 1 := by simp
  have bC0 := Boxed.new (w.alloc (.cells #[.slice A1 L.length c1] 38)) 4 (.bool cl)
  rw [e1] at bC0
  have bL0 := Boxed.new ((w.alloc (.cells #[.slice A1 L.length c1] 38)).alloc (.cells #[.bool cl] 4)) 3 (.int .i64 ((L.length : Int) - 1))
  rw [e2] at bL0
  have HX0 := Lib.hid (((Boxed.new w 38 (.slice A1 L.length c1)).alloc (.cells #[.bool cl] 4)).alloc (.cells #[.int .i64 ((L.length : Int) - 1)] 3))
  have HC0 := Lib.hid (bC0.alloc (.cells #[.int .i64 ((L.length : Int) - 1)] 3))
  have HL0 := Lib.hid bL0
  have HB0 := Lib.hid ((((Below.refl w.heap.size w).alloc (Nat.le_refl _) (.cells #[.slice A1 L.length c1] 38)).alloc (by simp) (.cells #[.bool cl] 4)).alloc (by simp; omega) (.cells #[.int .i64 ((L.length : Int) - 1)] 3))
  clear bC0 bL0 e1 e2
  generalize w.heap.size + 1 + 1 = Bl at HX0 HC0 HL0 HB0 ⊢
  generalize w.heap.size + 1 = Bc at HX0 HC0 HL0 HB0 ⊢
  generalize hW : ((w.alloc (.cells #[.slice A1 L.length c1] 38)).alloc (.cells #[.bool cl] 4)).alloc (.cells #[.int .i64 ((L.length : Int) - 1)] 3) = w2 at HX0 HC0 HL0 HB0 ⊢
  clear hW
  go_loopw [15] (fun i wr => ∃ j : Nat, j ≤ L.length ∧ i = .int .i64 j ∧ Hid (∀ k, k < j → ∀ i, i < k → prOk cl L i k = true) ∧ Hid (Boxed wr w.heap.size 38 (.slice A1 L.length c1)) ∧ Hid (Boxed wr Bc 4 (.bool cl)) ∧ Hid (Boxed wr Bl 3 (.int .i64 ((L.length : Int) - 1))) ∧ Hid (Below w.heap.size w wr)) (fun i _ => L.length - (intOf i).toNat)
  case atStart => exact ⟨0, Nat.zero_le _, rfl, Lib.hid (fun k hk => by omega), HX0, HC0, HL0, HB0⟩
  case round =>
    obtain ⟨i, hi, rfl, hp, HX, HC, HL, HB⟩ := hrel
    clear HX0 HC0 HL0 HB0
    by_cases hlt : i < L.length
    · have hli : (i : Int) < (L.length : Int) := by omega
      go_wp2
      go_loopw [19] (fun k wx => ∃ j : Nat, j ≤ i ∧ k = .int .i64 j ∧ Hid (∀ q, q < j → prOk cl L q i = true) ∧ Hid (Boxed wx w.heap.size 38 (.slice A1 L.length c1)) ∧ Hid (Boxed wx Bc 4 (.bool cl)) ∧ Hid (Boxed wx Bl 3 (.int .i64 ((L.length : Int) - 1))) ∧ Hid (Below w.heap.size w wx)) (fun k _ => i - (intOf k).toNat)
      case atStart => exact ⟨0, Nat.zero_le _, rfl, Lib.hid (fun k hk => by omega), HX, HC, HL, HB⟩
      case round =>
        obtain ⟨j, hj, rfl, hq, HX, HC, HL, HB⟩ := hrel
        by_cases hlj : j < i
        · have hlj' : (j : Int) < (i : Int) := by omega
          obtain ⟨b, off, v, rfl, hbl, hv, -⟩ := HS.out.lt hlt
          obtain ⟨u, hu⟩ : ∃ u, L[j]? = some u := ⟨_, List.getElem?_eq_getElem (by omega)⟩
          have HU := Lib.hid hu; have HV := Lib.hid hv
          clear hu hv
          cases hd : decide (howS u v = wantC cl L.length j i)
          · obtain rfl : z = false := HZ.out.symm.trans (turn_no HU.out HV.out hlj (of_decide_eq_false hd))
            go_wp2_with (go_at_call 116; refine (meetRightly_is w.heap.size Bc Bl b off c1 _ j i cl L u v _ HX.out.cell HC.out.cell HL.out.cell (HS.out.below HB.out) h9 HU.out HV.out _ hd).mono ?_; rintro e w9 ⟨rfl, hb9⟩)
            go_ret
            exact ⟨rfl, HB.out.trans (hb9.mono HB.out.size)⟩
          · go_wp2_with (go_at_call 116; refine (meetRightly_is w.heap.size Bc Bl b off c1 _ j i cl L u v _ HX.out.cell HC.out.cell HL.out.cell (HS.out.below HB.out) h9 HU.out HV.out _ hd).mono ?_; rintro e w9 ⟨rfl, hb9⟩)
            go_roundw
            case rel => exact ⟨j + 1, by omega, by go_num, Lib.hid (upto_step hq.out (pr_ok HU.out HV.out (of_decide_eq_true hd))), Lib.hid (boxed_call HX.out hb9), Lib.hid (boxed_call HC.out hb9), Lib.hid (boxed_call HL.out hb9), Lib.hid (HB.out.trans (hb9.mono HB.out.size))⟩
            case measure => simp [intOf]; omega
        · obtain rfl : j = i := by omega
          go_wp2
          go_roundw
          case rel => exact ⟨j + 1, by omega, by go_num, Lib.hid (upto_step hp.out hq.out), HX, HC, HL, HB⟩
          case measure => simp [intOf]; omega
    · obtain rfl : i = L.length := by omega
      obtain rfl : z = true := HZ.out.symm.trans (turn_yes hp.out)
      go_wp2
      go_ret
      exact ⟨rfl, HB.out⟩
end Go.Proofs.YtbnjaaegbmhopaaGreatDoor
end
section
/- The contracts of the standard library's generic functions that this seat needs, at this translation: layings in plain words. -/
namespace Go.Proofs
open Go.Shelf
def Tryz.growPt_ren : Go.Shelf.Ren := ⟨fun | 4 => 82 | n => n, fun | 22 => 24 | 25 => 33 | 3 => 3 | 4 => 4 | 9 => 9 | 20 => 20 | 0 => 0 | 2 => 3 | n => n, fun | n => n⟩
theorem Tryz.growPt : Go.Proofs.Lays8.n4 Tryz.prog Tryz.growPt_ren := {
  mixed := by kernel_rfl
  f4 := ⟨Tryz.f82.name, by decide, Tryz.func82.trans (congrArg some (by kernel_rfl))⟩
  t0 := Tryz.underlying0
  a0 := Tryz.isAgg0
  z0 := Tryz.sizeOf0
  v0 := Tryz.zeroValue0
  t3 := Tryz.underlying3
  a3 := Tryz.isAgg3
  z3 := Tryz.sizeOf3
  v3 := Tryz.zeroValue3
  t4 := Tryz.underlying4
  a4 := Tryz.isAgg4
  z4 := Tryz.sizeOf4
  v4 := Tryz.zeroValue4
  t9 := Tryz.underlying9
  a9 := Tryz.isAgg9
  z9 := Tryz.sizeOf9
  v9 := Tryz.zeroValue9
  t20 := Tryz.underlying20
  a20 := Tryz.isAgg20
  z20 := Tryz.sizeOf20
  v20 := Tryz.zeroValue20
  t22 := Tryz.underlying24
  a22 := Tryz.isAgg24
  z22 := Tryz.sizeOf24
  v22 := Tryz.zeroValue24 }
def Tryz.sortSeg_ren : Go.Shelf.Ren := ⟨fun | 6 => 86 | 15 => 120 | 14 => 119 | 28 => 149 | 29 => 150 | 20 => 141 | 21 => 142 | 22 => 143 | 23 => 144 | 24 => 145 | 25 => 146 | 26 => 147 | 27 => 148 | 46 => 159 | 47 => 160 | 48 => 161 | 49 => 162 | 50 => 163 | 57 => 171 | n => n, fun | 22 => 38 | 24 => 78 | 25 => 121 | 3 => 3 | 39 => 161 | 0 => 0 | 53 => 194 | 55 => 196 | 4 => 4 | 46 => 187 | 45 => 186 | 50 => 191 | 5 => 5 | 9 => 9 | 66 => 205 | 70 => 209 | 76 => 218 | 77 => 219 | n => n, fun | n => n⟩
theorem Tryz.sortSeg : Go.Proofs.SlLaysF0.n6 Tryz.prog Tryz.sortSeg_ren := {
  mixed := by kernel_rfl
  f6 := ⟨Tryz.f86.name, by decide, Tryz.func86.trans (congrArg some (by kernel_rfl))⟩
  f14 := ⟨Tryz.f119.name, by decide, Tryz.func119.trans (congrArg some (by kernel_rfl))⟩
  f15 := Tryz.func120.trans (congrArg some (by kernel_rfl))
  f20 := ⟨Tryz.f141.name, by decide, Tryz.func141.trans (congrArg some (by kernel_rfl))⟩
  f21 := ⟨Tryz.f142.name, by decide, Tryz.func142.trans (congrArg some (by kernel_rfl))⟩
  f22 := ⟨Tryz.f143.name, by decide, Tryz.func143.trans (congrArg some (by kernel_rfl))⟩
  f23 := ⟨Tryz.f144.name, by decide, Tryz.func144.trans (congrArg some (by kernel_rfl))⟩
  f24 := ⟨Tryz.f145.name, by decide, Tryz.func145.trans (congrArg some (by kernel_rfl))⟩
  f25 := ⟨Tryz.f146.name, by decide, Tryz.func146.trans (congrArg some (by kernel_rfl))⟩
  f26 := ⟨Tryz.f147.name, by decide, Tryz.func147.trans (congrArg some (by kernel_rfl))⟩
  f27 := ⟨Tryz.f148.name, by decide, Tryz.func148.trans (congrArg some (by kernel_rfl))⟩
  f28 := Tryz.func149.trans (congrArg some (by kernel_rfl))
  f29 := Tryz.func150.trans (congrArg some (by kernel_rfl))
  f46 := ⟨Tryz.f159.name, by decide, Tryz.func159.trans (congrArg some (by kernel_rfl))⟩
  f47 := Tryz.func160.trans (congrArg some (by kernel_rfl))
  f48 := Tryz.func161.trans (congrArg some (by kernel_rfl))
  f49 := ⟨Tryz.f162.name, by decide, Tryz.func162.trans (congrArg some (by kernel_rfl))⟩
  f50 := ⟨Tryz.f163.name, by decide, Tryz.func163.trans (congrArg some (by kernel_rfl))⟩
  f57 := ⟨Tryz.f171.name, by decide, Tryz.func171.trans (congrArg some (by kernel_rfl))⟩
  t0 := Tryz.underlying0
  a0 := Tryz.isAgg0
  z0 := Tryz.sizeOf0
  v0 := Tryz.zeroValue0
  t3 := Tryz.underlying3
  a3 := Tryz.isAgg3
  z3 := Tryz.sizeOf3
  v3 := Tryz.zeroValue3
  t4 := Tryz.underlying4
  a4 := Tryz.isAgg4
  z4 := Tryz.sizeOf4
  v4 := Tryz.zeroValue4
  t5 := Tryz.underlying5
  a5 := Tryz.isAgg5
  z5 := Tryz.sizeOf5
  v5 := Tryz.zeroValue5
  t9 := Tryz.underlying9
  a9 := Tryz.isAgg9
  z9 := Tryz.sizeOf9
  v9 := Tryz.zeroValue9
  t22 := Tryz.underlying38
  a22 := Tryz.isAgg38
  z22 := Tryz.sizeOf38
  v22 := Tryz.zeroValue38
  t25 := Tryz.underlying121
  a25 := Tryz.isAgg121
  z25 := Tryz.sizeOf121
  v25 := Tryz.zeroValue121
  t39 := Tryz.underlying161
  a39 := Tryz.isAgg161
  z39 := Tryz.sizeOf161
  v39 := Tryz.zeroValue161
  t45 := Tryz.underlying186
  a45 := Tryz.isAgg186
  z45 := Tryz.sizeOf186
  v45 := Tryz.zeroValue186
  t46 := Tryz.underlying187
  a46 := Tryz.isAgg187
  z46 := Tryz.sizeOf187
  v46 := Tryz.zeroValue187
  t50 := Tryz.underlying191
  a50 := Tryz.isAgg191
  z50 := Tryz.sizeOf191
  v50 := Tryz.zeroValue191
  t53 := Tryz.underlying194
  a53 := Tryz.isAgg194
  z53 := Tryz.sizeOf194
  v53 := Tryz.zeroValue194
  t55 := Tryz.underlying196
  a55 := Tryz.isAgg196
  z55 := Tryz.sizeOf196
  v55 := Tryz.zeroValue196
  t66 := Tryz.underlying205
  a66 := Tryz.isAgg205
  z66 := Tryz.sizeOf205
  v66 := Tryz.zeroValue205
  t70 := Tryz.underlying209
  a70 := Tryz.isAgg209
  z70 := Tryz.sizeOf209
  v70 := Tryz.zeroValue209
  t76 := Tryz.underlying218
  a76 := Tryz.isAgg218
  z76 := Tryz.sizeOf218
  v76 := Tryz.zeroValue218
  t77 := Tryz.underlying219
  a77 := Tryz.isAgg219
  z77 := Tryz.sizeOf219
  v77 := Tryz.zeroValue219 }
end Go.Proofs
end
section
/- slices.Grow of nothing and slices.Concat of two, at points; RotateRing of package impl. -/
namespace Go.Proofs.YtbnjaaegbmhopaaGreatDoor
open Go.ChangeShapes Go.WideShapes Go.ChangeAt Go.RowKit
set_option linter.unusedVariables false

/-- Grow of nothing: no points, with room. -/
theorem grow_any (n : Nat) (w : World) (hn : n ≤ 2199023255552) :
    Calls Tryz.prog 82 #[.slice none 0 0, .int .i64 n] w fun e w' => ∃ A c, e = .returned (.slice A 0 c) ∧ OwnE 2 encPoint w' w.heap.size 33 (.slice A 0 c) ([] : List (Int × Int)) ∧ Below w.heap.size w w' := by
  by_cases h0 : n = 0
  · subst h0
    refine (Any8.slices_Grow_room Tryz.growPt none 0 0 0 w (Nat.le_refl _) (by omega) (by omega) (by omega)).mono ?_
    rintro e w' ⟨rfl, rfl⟩
    exact ⟨none, 0, rfl, OwnE.nil _ _ _, Below.refl _ _⟩
  · obtain ⟨i, hi, hz, h1, h2⟩ := info_parts infoPoint
    refine (Any8.slices_Grow_grow Tryz.growPt i _ hi hz (by rw [h1]; decide) none 0 0 n [] w (Nat.le_refl _) (by omega) (by rw [h2]; omega) (by omega) (by simp) (fun _ => rfl) (fun a h => by cases h)).mono ?_
    rintro e w' ⟨he, hw⟩
    obtain ⟨G, hG⟩ : ∃ G, grownCap w (0 + n) 0 33 = G := ⟨_, rfl⟩
    have hge := grownCap_ge w (0 + n) 0 33
    have hle := grownCap_le_maxLen w (0 + n) 0 33 (by unfold maxLen; omega)
    change e = .returned (.slice (some ⟨w.heap.size, 0, none⟩) 0 (grownCap w (0 + n) 0 33)) at he
    change w' = w.drew.alloc (.cells (([] : List Value).toArray ++ Builtin.zeroCells (PtV 0 0).cells (0 + n - 0) ++ Builtin.zeroCells (PtV 0 0).cells (grownCap w (0 + n) 0 33 - (0 + n))) 33) at hw
    rw [hG] at hge hle he hw
    subst he hw
    refine ⟨_, _, rfl, ⟨by simp [cellsE], .inr ⟨w.heap.size, _, _, rfl, Nat.le_refl _, heap_alloc_new w.drew _, Nat.zero_le _, hle, ?_, by simp [cellsE]⟩⟩, (Below.refl _ w).drew.alloc (Nat.le_refl _) _⟩
    simp only [Array.size_append, size_zeroCells, List.size_toArray, List.length_nil]
    have hc : (PtV 0 0).cells.size = 2 := rfl
    rw [hc]; omega
/-- What is laid behind j of both. -/
def catV (l m : List (Int × Int)) (j : Nat) : List (Int × Int) := if j = 0 then [] else if j = 1 then l else l ++ m
def CatS (a b : Nat) (n i : Value) : Prop := (i = .int .i64 0 ∧ n = .int .i64 0) ∨ (i = .int .i64 1 ∧ n = .int .i64 (a : Int)) ∨ (i = .int .i64 2 ∧ n = .int .i64 ((a : Int) + b))
set_option maxRecDepth 100000 in
set_option maxHeartbeats 4000000 in
theorem concat_any (g : Nat) (A A' : Option Addr) (c c' : Nat) (l m : List (Int × Int)) (w : World) (h0 : w.cell? ⟨g, 0, none⟩ = some (.slice A l.length c)) (h1 : w.cell? ⟨g, 1, none⟩ = some (.slice A' m.length c'))
    (hs : SeesE 2 encPoint w w.heap.size A l) (hs' : SeesE 2 encPoint w w.heap.size A' m) (hl : l.length ≤ 549755813888) (hm : m.length ≤ 549755813888) :
    Calls Tryz.prog 49 #[.slice (some ⟨g, 0, none⟩) 2 2] w (GivesE 2 encPoint 33 (l ++ m) w) := by
  have HS := Lib.hid hs; clear hs
  have HS' := Lib.hid hs'; clear hs'
  have HM : Hid ((l ++ m).length = l.length + m.length) := Lib.hid (by simp)
  go_enter Tryz.func49, Tryz.ntmps49
  go_wp2
  go_loop [3, 11] (fun n i => CatS l.length m.length n i) (fun _ i => 2 - (intOf i).toNat)
  case atStart => exact .inl ⟨rfl, rfl⟩
  case round =>
    rcases hrel with ⟨rfl, rfl⟩ | ⟨rfl, rfl⟩ | ⟨rfl, rfl⟩
    · go_wp2
      go_round
      case rel => exact .inr (.inl ⟨rfl, by go_num⟩)
      case measure => simp [intOf]
    · go_wp2
      go_round
      case rel => exact .inr (.inr ⟨rfl, by go_num⟩)
      case measure => simp [intOf]
    · have e : (l.length : Int) + m.length = ((l.length + m.length : Nat) : Int) := by omega
      rw [e]
      obtain ⟨q, hq⟩ : ∃ q, l.length + m.length = q := ⟨_, rfl⟩
      have hq2 : q ≤ 1099511627776 := by omega
      rw [hq]
      have HQ := Lib.hid hq
      clear e hq
      go_wp2_with fail
      refine (grow_any q w (by omega)).mono ?_
      rintro e w1 ⟨A1, c1, rfl, ho1, hb1⟩
      have HO1 := Lib.hid ho1; have HB1 := Lib.hid hb1
      have HW := Lib.hid hb1.size
      have g0 := (hb1.cell (World.block_lt_of_cell? _ _ h0)).trans h0
      have g1 := (hb1.cell (World.block_lt_of_cell? _ _ h1)).trans h1
      have hgl := World.block_lt_of_cell? _ _ h0
      have H0 := Lib.hid h0; have H1 := Lib.hid h1
      clear ho1 hb1 h0 h1
      go_wp2
      go_loopw [6, 27] (fun v i wr => ∃ (j : Nat) (A2 : Option Addr) (c2 : Nat) (L : List (Int × Int)), j ≤ 2 ∧ i = .int .i64 j ∧ Hid (L = catV l m j) ∧ v = .slice A2 L.length c2 ∧ OwnE 2 encPoint wr w.heap.size 33 v L ∧ Below w.heap.size w wr) (fun _ i _ => 2 - (intOf i).toNat)
      case atStart => exact ⟨0, A1, c1, [], by omega, rfl, Lib.hid rfl, rfl, HO1.out, HB1.out⟩
      case round =>
        obtain ⟨j, A2, c2, L, hj, rfl, hL, rfl, ho, hb⟩ := hrel
        have k0 := (hb.cell (World.block_lt_of_cell? _ _ H0.out)).trans H0.out
        have k1 := (hb.cell (World.block_lt_of_cell? _ _ H1.out)).trans H1.out
        have HO := Lib.hid ho; have HB := Lib.hid hb
        clear ho hb g0 g1 HO1 HB1
        by_cases hj0 : j = 0
        · subst hj0
          have e0 : L.length = 0 := by rw [hL.out]; rfl
          go_wp2_with (at_builtin; refine appPoint _ rfl _ _ rfl w.heap.size _ L rfl HO.out w.heap.size A l.length c l rfl rfl (HS.out.below HB.out) (by omega) HB.out.size ?_; intro A3 c3 L3 w3 hL3 h2 h3 ho3 hb3)
          go_roundw
          case rel => exact ⟨1, A3, c3, L3, by omega, by go_num, Lib.hid (by rw [hL3.out, hL.out]; rfl), rfl, ho3, HB.out.trans hb3⟩
          case measure => simp [intOf]
        · by_cases hj1 : j = 1
          · subst hj1
            have e0 : L.length = l.length := by rw [hL.out]; rfl
            go_wp2_with (at_builtin; refine appPoint _ rfl _ _ rfl w.heap.size _ L rfl HO.out w.heap.size A' m.length c' m rfl rfl (HS'.out.below HB.out) (by omega) HB.out.size ?_; intro A3 c3 L3 w3 hL3 h2 h3 ho3 hb3)
            go_roundw
            case rel => exact ⟨2, A3, c3, L3, by omega, by go_num, Lib.hid (by rw [hL3.out, hL.out]; rfl), rfl, ho3, HB.out.trans hb3⟩
            case measure => simp [intOf]
          · obtain rfl : j = 2 := by omega
            go_wp2
            go_ret
            exact ⟨A2, c2, L, Lib.hid (by rw [hL.out]; rfl), rfl, HO.out, HB.out⟩
/-- The points from the k-th on, and then those before it; all of them, if there is no k-th. -/
def rotV (l : List (Int × Int)) (k : Int) : List (Int × Int) := if inB k 0 ((l.length : Int) - 1) = true then l.drop k.toNat ++ l.take k.toNat else l
theorem concat_at (g n1 n2 : Nat) (A A' : Option Addr) (c c' : Nat) (l m : List (Int × Int)) (w : World) (e1 : l.length = n1) (e2 : m.length = n2) (h0 : w.cell? ⟨g, 0, none⟩ = some (.slice A n1 c)) (h1 : w.cell? ⟨g, 1, none⟩ = some (.slice A' n2 c'))
    (hs : SeesE 2 encPoint w w.heap.size A l) (hs' : SeesE 2 encPoint w w.heap.size A' m) (hl : n1 ≤ 549755813888) (hm : n2 ≤ 549755813888) :
    Calls Tryz.prog 49 #[.slice (some ⟨g, 0, none⟩) 2 2] w (GivesE 2 encPoint 33 (l ++ m) w) := by
  subst e1 e2; exact concat_any g A A' c c' l m w h0 h1 hs hs' hl hm
set_option maxRecDepth 100000 in
set_option maxHeartbeats 4000000 in
theorem rotateRing_any (A : Option Addr) (c : Nat) (l : List (Int × Int)) (k : Int) (w : World) (hs : SeesE 2 encPoint w w.heap.size A l) (hl : l.length ≤ 274877906944) (hlc : l.length ≤ c) (hc : (c : Int) ≤ 9223372036854775807) (hk : (Lit.int .i64 k).wf = true) :
    Calls Tryz.prog 13 #[.slice A l.length c, .int .i64 k] w (GivesE 2 encPoint 33 (rotV l k) w) := by
  have HS := Lib.hid hs; clear hs
  go_enter Tryz.func13, Tryz.ntmps13
  cases hin : inB k 0 ((l.length : Int) - 1)
  · have h0c : ¬ ((c : Int) < 0) := by omega
    have h0l : ¬ ((l.length : Int) < 0) := by omega
    go_wp2_with (first
      | (go_at_call 48; refine (in_is _ _ _ _ _ hin).mono ?_; rintro e w1 ⟨rfl, rfl⟩))
    have HR : Hid (l ++ [] = rotV l k) := Lib.hid (by unfold rotV; rw [if_neg (by rw [hin]; decide), List.append_nil])
    go_region_held3 (fun _ => True) (trivial) (first | (go_at_call 49; refine (concat_at w.heap.size l.length 0 A A c c l [] _ rfl rfl (cell_of_row _ _ 0 _ _ (0, 0) (heap_alloc_new w _)) (cell_of_row _ _ 1 _ _ (0, 0) (heap_alloc_new w _)) (HS.out.alloc (Nat.le_refl _) _ |>.drew |>.mono (by simp)) SeesE.nil (by omega) (by omega)).mono ?_; rintro e w1 ⟨A1, c1, L, hL, rfl, ho1, hb1⟩; have HO1 := Lib.hid ho1; have HB1 := Lib.hid hb1; have HL := hL) | fail)
    all_goals
      go_wp2
      go_ret
      exact ⟨A1, c1, L, Lib.hid (by rw [HL.out, HR.out]), rfl, HO1.out.mono (by simp), ((Below.refl _ w).alloc (Nat.le_refl _) _).drew.trans (HB1.out.mono (by simp))⟩
  · have hk' : 0 ≤ k ∧ k ≤ (l.length : Int) - 1 := by simpa [inB] using hin
    obtain ⟨j, rfl⟩ : ∃ j : Nat, k = (j : Int) := ⟨k.toNat, by omega⟩
    have hjl : j < l.length := by omega
    have hjl' : (j : Int) ≤ (l.length : Int) := by omega
    have hjc' : (j : Int) ≤ (c : Int) := by omega
    go_wp2_with (first
      | (go_at_call 48; refine (in_is _ _ _ _ _ hin).mono ?_; rintro e w1 ⟨rfl, rfl⟩))
    have b1 : (0 : Int) ≤ (j : Int) := by omega
    have b2 : ¬ ((j : Int) < 0) := by omega
    have b3 : ¬ ((c : Int) < (j : Int)) := by omega
    have b4 : ¬ ((l.length : Int) < (j : Int)) := by omega
    have hlc' : ¬ (c = j) := by omega
    have HA : Hid (SeesE 2 encPoint w w.heap.size (if c = j then A else Option.map (fun x => x.add (j * 2)) A) (l.drop j)) := Lib.hid (HS.out.suf j _ (fun _ => if_neg hlc'))
    have HT : Hid (SeesE 2 encPoint w w.heap.size A (l.take j)) := Lib.hid (HS.out.pre j)
    have E1 : Hid ((l.drop j).length = l.length - j) := Lib.hid (by simp)
    have E2 : Hid ((l.take j).length = j) := Lib.hid (by simp; omega)
    have HR : Hid (l.drop j ++ l.take j = rotV l j) := Lib.hid (by unfold rotV; rw [if_pos hin]; simp)
    clear hlc'
    go_region_held3 (fun _ => True) (trivial) (first | (go_at_call 49; refine (concat_at w.heap.size (l.length - j) j _ A (c - j) c (l.drop j) (l.take j) _ E1.out E2.out (cell_of_row _ _ 0 _ _ (0, 0) (heap_alloc_new w _)) (cell_of_row _ _ 1 _ _ (0, 0) (heap_alloc_new w _)) (HA.out.alloc (Nat.le_refl _) _ |>.drew |>.mono (by simp)) (HT.out.alloc (Nat.le_refl _) _ |>.drew |>.mono (by simp)) (by omega) (by omega)).mono ?_; rintro e w1 ⟨A1, c1, L, hL, rfl, ho1, hb1⟩; have HO1 := Lib.hid ho1; have HB1 := Lib.hid hb1; have HL := hL) | fail)
    all_goals
      go_wp2
      go_ret
      exact ⟨A1, c1, L, Lib.hid (by rw [HL.out, HR.out]), rfl, HO1.out.mono (by simp), ((Below.refl _ w).alloc (Nat.le_refl _) _).drew.trans (HB1.out.mono (by simp))⟩
end Go.Proofs.YtbnjaaegbmhopaaGreatDoor
end
section
/- Rings: a ring's segments meet in turn. -/
namespace Go.Proofs.YtbnjaaegbmhopaaGreatDoor
open Go.RowKit
set_option linter.unusedVariables false

theorem howS_ok {u v : Int × Int × Int × Int} (h : howS u v ≠ 0) : sOk u = true ∧ sOk v = true := by
  by_cases hh : isS u.1 u.2.1 u.2.2.1 u.2.2.2 = true ∧ isS v.1 v.2.1 v.2.2.1 v.2.2.2 = true
  · exact hh
  · exact absurd (how_no hh) h
theorem ite_iff {p q : Prop} [Decidable p] [Decidable q] (h : p ↔ q) {a b : Int} : (if p then a else b) = if q then a else b := by
  by_cases hp : p
  · rw [if_pos hp, if_pos (h.1 hp)]
  · rw [if_neg hp, if_neg (fun k => hp (h.2 k))]
theorem turn_cyc {S : List (Int × Int × Int × Int)} : turnV true S = true ↔ CycOk S := by
  unfold turnV
  rw [decide_eq_true_eq]
  constructor
  · intro h
    refine cycOk_of fun i k u v hu hv hk => ?_
    have := h i (List.getElem?_eq_some_iff.1 hu).1 k hk
    rw [prOk_at hv hu, beq_iff_eq, howS_comm] at this
    rw [this]
    unfold wantC
    have e : (k + 1 = i ∨ (true = true ∧ k = 0 ∧ i + 1 = S.length)) ↔ adjC S.length i k := by rw [show (true = true) = True from eq_self true, true_and]; unfold adjC; omega
    exact ite_iff e
  · intro h k hk i hi
    obtain ⟨u, hu⟩ : ∃ u, S[i]? = some u := ⟨_, List.getElem?_eq_getElem (by omega)⟩
    obtain ⟨v, hv⟩ : ∃ v, S[k]? = some v := ⟨_, List.getElem?_eq_getElem hk⟩
    rw [prOk_at hu hv, beq_iff_eq, h i k u v hu hv (by omega)]
    unfold wantC
    have e : adjC S.length i k ↔ (i + 1 = k ∨ (true = true ∧ i = 0 ∧ k + 1 = S.length)) := by rw [show (true = true) = True from eq_self true, true_and]; unfold adjC; omega
    exact ite_iff e
/-- It need not be asked whether each is valid. -/
theorem isRg_turn (l : List (Int × Int)) : isRg l = (inB l.length 3 10 && turnV true (rgS l)) := by
  rw [Bool.eq_iff_iff, isRg_iff, Bool.and_eq_true, turn_cyc]
  have hn := rgS_len l
  constructor
  · rintro ⟨h1, -, h3⟩
    exact ⟨by simp only [inB, decide_eq_true_eq]; omega, h3⟩
  · rintro ⟨h1, h3⟩
    have hl : 3 ≤ l.length ∧ l.length ≤ 10 := by simp only [inB, decide_eq_true_eq] at h1; omega
    refine ⟨hl, fun s hs => ?_, h3⟩
    obtain ⟨i, hi⟩ := List.getElem?_of_mem hs
    have hil := (List.getElem?_eq_some_iff.1 hi).1
    by_cases h0 : i = 0
    · obtain ⟨v, hv⟩ : ∃ v, (rgS l)[1]? = some v := ⟨_, List.getElem?_eq_getElem (by omega)⟩
      have := h3 i 1 s v hi hv (by omega)
      rw [if_pos (by unfold adjC; omega)] at this
      exact (howS_ok (by rw [this]; decide)).1
    · obtain ⟨v, hv⟩ : ∃ v, (rgS l)[i - 1]? = some v := ⟨_, List.getElem?_eq_getElem (by omega)⟩
      have := h3 i (i - 1) s v hi hv (by omega)
      rw [if_pos (by unfold adjC; omega)] at this
      exact (howS_ok (by rw [this]; decide)).1
theorem rotV_zero (l : List (Int × Int)) : rotV l 0 = l := by
  unfold rotV; split
  · simp
  · rfl
end Go.Proofs.YtbnjaaegbmhopaaGreatDoor
end
section
/- Rings in the model: l7Segments, RotateRing, TurnRing. -/
namespace Go.Proofs.YtbnjaaegbmhopaaGreatDoor
open Go.ChangeShapes Go.WideShapes Go.ChangeAt Go.RowKit
set_option linter.unusedVariables false

theorem keepAr {w : World} {p : Addr} {v : Value} (h : w.cell? p = some v) (o : Obj) : (w.alloc o).cell? p = some v :=
  (World.cell?_of_block (Below.heap_alloc _ _ _ (World.block_lt_of_cell? w p h))).trans h
theorem rgs_step {S L L2 : List (Int × Int × Int × Int)} {j : Nat} {x : Int × Int × Int × Int} (hL : L = S.take j) (h : L2 = L ++ [x]) (hx : S[j]? = some x) : L2 = S.take (j + 1) := by
  rw [h, hL, List.take_add_one, hx]; rfl
set_option maxRecDepth 100000 in
set_option maxHeartbeats 1000000 in
theorem l7Segments_any (A : Option Addr) (c : Nat) (l : List (Int × Int)) (w : World) (hs : SeesE 2 encPoint w w.heap.size A l) (hl : l.length ≤ 274877906944) :
    Calls Tryz.prog 107 #[.slice A l.length c] w (GivesE 4 encSegment 78 (rgS l) w) := by
  have HS := Lib.hid hs; clear hs
  have hrl := rgS_len l
  go_enter Tryz.func107, Tryz.ntmps107
  go_wp2
  go_loopw [3, 4] (fun v i wr => ∃ (A1 : Option Addr) (c1 : Nat) (L : List (Int × Int × Int × Int)) (j : Nat), v = .slice A1 L.length c1 ∧ i = .int .i64 (j : Int) ∧ j ≤ l.length ∧ Hid (L = (rgS l).take j) ∧ Hid (L.length = j) ∧ Hid (OwnE 4 encSegment wr w.heap.size 78 (.slice A1 L.length c1) L) ∧ Hid (Below w.heap.size w wr)) (fun _ i _ => l.length - (intOf i).toNat)
  case atStart => exact ⟨_, _, [], 0, rfl, rfl, Nat.zero_le _, Lib.hid (by simp), Lib.hid rfl, Lib.hid (OwnE.lit w _ _ (Nat.le_refl _)), Lib.hid ((Below.refl _ _).alloc (Nat.le_refl _) _)⟩
  case round =>
    obtain ⟨A1, c1, L, j, rfl, rfl, hj, hL, HN, HO, HB⟩ := hrel
    by_cases hlt : j < l.length
    · have hlt' : (j : Int) < (l.length : Int) := by omega
      have hrem2 : wrap64 ((j : Int) + 1) = (j : Int) + 1 := by unfold wrap64; omega
      have hrem3 : IntKind.i64.wrap ((j : Int) + 1) = (j : Int) + 1 := IntWalk.i64_in _ (by omega)
      obtain ⟨⟨x0, x1⟩, hx⟩ : ∃ p, l[j]? = some p := ⟨_, List.getElem?_eq_getElem hlt⟩
      obtain ⟨k, hk, hkl⟩ : ∃ k, (j + 1) % l.length = k ∧ k < l.length := ⟨_, rfl, Nat.mod_lt _ (by omega)⟩
      obtain ⟨⟨y0, y1⟩, hy⟩ : ∃ p, l[k]? = some p := ⟨_, List.getElem?_eq_getElem hkl⟩
      have HJ : Hid ((rgS l)[j]? = some (x0, x1, y0, y1)) := Lib.hid (rgS_get hx (by rw [hk]; exact hy))
      obtain ⟨b, off, rfl, hbl, -⟩ := HS.out j _ hx
      obtain ⟨k0, k1⟩ := cellsPoint (HS.out.below HB.out) hx
      obtain ⟨k2, k3⟩ := cellsPoint (HS.out.below HB.out) hy
      have hkl' : (k : Int) < (l.length : Int) := by omega
      have hne : ¬ ((l.length : Int) = 0) := by omega
      have hne2 : ¬ (l = []) := fun e => by rw [e] at hlt; simp at hlt
      have hone : L.length + [(x0, x1, y0, y1)].length ≤ 1099511627776 := by rw [HN.out]; simp; omega
      have d0 : wr.drew.cell? ⟨b, off + j * 2, none⟩ = some (.int .i64 x0) := k0
      have d1 : wr.drew.cell? ⟨b, off + j * 2 + 1, none⟩ = some (.int .i64 x1) := k1
      have d2 : wr.drew.cell? ⟨b, off + k * 2, none⟩ = some (.int .i64 y0) := k2
      have d3 : wr.drew.cell? ⟨b, off + k * 2 + 1, none⟩ = some (.int .i64 y1) := k3
      have HQ1 := Lib.hid (And.intro d0 (And.intro d1 (And.intro d2 d3)))
      have HQ2 := Lib.hid (And.intro (keepAr d0 (.cells (sC (x0, x1, y0, y1)) 78)) (And.intro (keepAr d1 (.cells (sC (x0, x1, y0, y1)) 78)) (And.intro (keepAr d2 (.cells (sC (x0, x1, y0, y1)) 78)) (keepAr d3 (.cells (sC (x0, x1, y0, y1)) 78)))))
      clear d0 d1 d2 d3
      have HB2 := Lib.hid (HB.out.drew.alloc HB.out.size (.cells (sC (x0, x1, y0, y1)) 78))
      have HO2 := Lib.hid (HO.out.drew.alloc (.cells (sC (x0, x1, y0, y1)) 78))
      have HX2 := Lib.hid (seesE_new elSegment wr.drew (x0, x1, y0, y1) (sC (x0, x1, y0, y1)) 78 (wr.drew.heap.size + 1) (Nat.lt_succ_self _) rfl)
      have hrem : ((j : Int) + 1).tmod (l.length : Int) = (k : Int) := by
        rw [Int.tmod_eq_emod_of_nonneg (by omega)]; exact_mod_cast hk
      clear hx hy hk
      go_wp2
      go_region_held3 (fun w' => w'.cell? ⟨b, off + j * 2, none⟩ = some (.int .i64 x0) ∧ w'.cell? ⟨b, off + j * 2 + 1, none⟩ = some (.int .i64 x1) ∧ w'.cell? ⟨b, off + k * 2, none⟩ = some (.int .i64 y0) ∧ w'.cell? ⟨b, off + k * 2 + 1, none⟩ = some (.int .i64 y1)) (first | with_reducible exact ⟨k0, k1, k2, k3⟩ | with_reducible exact HQ1.out | with_reducible exact HQ2.out | exact ⟨keepAr k0 _, keepAr k1 _, keepAr k2 _, keepAr k3 _⟩ | with_reducible exact hc4.out) (first
        | (refine stepSg (wr.drew.alloc (.cells (sC (x0, x1, y0, y1)) 78)) _ _ (by rfl) w.heap.size (.slice A1 L.length c1) L (by rfl) HO2.out (wr.drew.heap.size + 1) (some ⟨wr.drew.heap.size, 0, none⟩) 1 1 [(x0, x1, y0, y1)] (by rfl) (by rfl) HX2.out hone HB2.out.size ?_; intro A4 c4 L4 w4 hL4 h1 h2 ho4 hb4; have hc4 := Lib.hid (And.intro ((hb4.cell (p := ⟨b, off + j * 2, none⟩) hbl).trans HQ2.out.1) (And.intro ((hb4.cell (p := ⟨b, off + j * 2 + 1, none⟩) hbl).trans HQ2.out.2.1) (And.intro ((hb4.cell (p := ⟨b, off + k * 2, none⟩) hbl).trans HQ2.out.2.2.1) ((hb4.cell (p := ⟨b, off + k * 2 + 1, none⟩) hbl).trans HQ2.out.2.2.2))))) | fail)
      go_wp2
      go_roundw
      case rel => exact ⟨A4, c4, L4, j + 1, rfl, by go_num, by omega, Lib.hid (rgs_step hL.out hL4.out HJ.out), Lib.hid (by have := HN.out; simp at h1 h2; omega), Lib.hid ho4, Lib.hid (HB2.out.trans hb4)⟩
      case measure => simp [intOf]; omega
    · obtain rfl : j = l.length := by omega
      go_wp2
      go_ret
      exact ⟨A1, c1, L, Lib.hid (by rw [hL.out, List.take_of_length_le (by omega)]), rfl, HO.out, HB.out⟩
end Go.Proofs.YtbnjaaegbmhopaaGreatDoor
end
section
/- Lines: slices.AppendSeq over the iterator, and SegmentsOf of package impl. -/
namespace Go.Proofs.YtbnjaaegbmhopaaGreatDoor
open Go.ChangeShapes Go.WideShapes Go.ChangeAt Go.RowKit Go.Shelf
set_option linter.unusedVariables false
attribute [local go_sem] Oper.semAt_some

theorem newSeg_cells (W : World) (x : Int × Int × Int × Int) (T : TypeId) : ∀ j u, (encSegment x)[j]? = some u → (W.alloc (.cells (sC x) T)).cell? ((⟨W.heap.size, 0, none⟩ : Addr).add j) = some u := fun j u hu => by
  rw [add_none]
  have := (Laid.new W T (sC x)).cell (k := j) (v := u) (by rw [← hu]; exact List.getElem?_toArray)
  simpa using this
theorem cellsSeg_snoc (pre : List (Int × Int × Int × Int)) (x : Int × Int × Int × Int) : cellsE encSegment (pre ++ [x]) = cellsE encSegment pre ++ encSegment x := by rw [cellsE_app]; simp [cellsE]
set_option maxRecDepth 100000 in
set_option maxHeartbeats 4000000 in
theorem appendSeq_any (Bx M n0 c1 : Nat) (A1 : Option Addr) (l : List (Int × Int)) (v0 : Value) (w : World) (bA : Boxed w Bx 24 (.slice A1 l.length c1)) (hs : SeesE 2 encPoint w M A1 l) (hMn : M ≤ n0) (hn0 : n0 ≤ w.heap.size) (hl : l.length ≤ 1000)
    (ho : OwnE 4 encSegment w n0 78 v0 []) :
    Calls Tryz.prog 109 #[v0, .func (.func 115) #[] #[.pointer (some ⟨Bx, 0, none⟩)]] w fun e w' => ∃ v, e = .returned v ∧ OwnE 4 encSegment w' n0 78 v (jts l) ∧ Below n0 w w' := by
  have HO := Lib.hid ho
  refine (callsIn_wide (n := 8)).1 ?_
  refine callsIn_of_wp_marks Tryz.func109 rfl trivial ?_ rfl
  simp only [Tryz.ntmps109, List.size_toArray, List.length_cons, List.length_nil, Nat.reduceAdd, Nat.reduceSub, Array.replicate_succ, Array.replicate_zero, List.push_toArray, List.append_toArray, List.nil_append, List.cons_append]
  have hBl := bA.lt
  have hv1 : v0.oneCell' = true := by obtain ⟨A, c, rfl, -⟩ := OwnE.form ho; rfl
  gi_wp2
  have bS := Boxed.new w 38 v0
  have bA := bA.alloc (.cells #[v0] 38)
  have hB0 : Below n0 w (w.alloc (.cells #[v0] 38)) := (Below.refl _ w).alloc hn0 _
  have hs0 := hs.alloc (Nat.le_trans hMn hn0) (.cells #[v0] 38)
  have ho0 := HO.out.alloc (.cells #[v0] 38)
  have hsz : (w.alloc (.cells #[v0] 38)).heap.size = w.heap.size + 1 := by simp
  obtain ⟨W0, hW0⟩ : ∃ W0, w.alloc (.cells #[v0] 38) = W0 := ⟨_, rfl⟩
  rw [hW0] at bS bA hB0 hsz hs0 ho0 ⊢
  clear hW0
  obtain ⟨i0, hi, hz0, hz1, hz2⟩ := info_parts infoSegment
  refine wpIn_rangeFunc_ownH rfl (by omega) (gf := 115) (lb := #[.pointer (some ⟨Bx, 0, none⟩)]) rfl trivial (enters_of Tryz.func115 (by kernel_rfl) rfl)
    (joints_stops (8 - 1) (by omega) Bx M (fun k => k < M ∨ k = Bx) A1 c1 l (by omega) W0 bA.lt (by omega) (.inr rfl) (fun _ h => .inl h) bA.cell hs0) KpS.t (KpS.book (by intro k hk; have := bA.lt; omega)) (Below.refl _ _) (fun _ => rfl)
    (fun pre W => ((∃ v, Boxed W w.heap.size 38 v ∧ W.ownsRow n0 78 4 v pre.length (cellsE encSegment pre) ∧ True) ∧ Boxed W Bx 24 (.slice A1 l.length c1)) ∧ Below n0 w W)
    (fun _ _ _ => False)
    (OwnFrom.and (OwnFrom.and (Own.from (holdsRow_own n0 w.heap.size 38 78 4 (fun pre => pre.length) (fun pre => cellsE encSegment pre) (fun _ _ => True)) _) (Own.from (boxed_own _ _ _) _)) (ownFrom_below hn0 (by omega)))
    (fun cc _ _ _ _ hs _ _ => hs)
    ⟨⟨⟨v0, bS, ho0, trivial⟩, bA⟩, hB0⟩
    (fun x a' W => ∃ By, w.heap.size < By ∧ Laid W By 78 (sC x) ∧ a' = { tmps := #[v0, .func (.func 115) #[] #[.pointer (some ⟨Bx, 0, none⟩)], .pointer (some ⟨w.heap.size, 0, none⟩), undef, .slice none 0 0, .pointer (some ⟨By, 0, none⟩), .func (.func 115) #[] #[.pointer (some ⟨Bx, 0, none⟩)], sV x, undef, undef, undef, undef, undef], defers := [] })
    (fun x a' _ X Y row hs hg hr => by obtain ⟨Bx, h1, h2, h3⟩ := hs; exact ⟨Bx, h1, laid_own Bx 78 (fun (_ : Unit) => sC x) () X Y row h2 hg (fun r e => (hr r e).2), h3⟩)
    ?assign ?body ?done ?stop
  case assign =>
    rintro y pre x W K ⟨⟨⟨v, bS1, hr1, -⟩, bA1⟩, hB1⟩ hK
    gi_wp2
    exact hK _ _ ((KeepsOthers.alloc _ _).from _) (KpS.alloc _ _) ⟨⟨⟨v, bS1.alloc _, hr1.alloc _, trivial⟩, bA1.alloc _⟩, hB1.alloc (Nat.le_trans hn0 (by have := bS1.lt; omega)) _⟩ ⟨W.heap.size, bS1.lt, Laid.new W _ _, rfl⟩
  case body =>
    rintro y pre x a' W hy hr ⟨⟨⟨v, hv, hrow, -⟩, bA1⟩, hB1⟩ ⟨By, hBy, bX, rfl⟩ hlt
    obtain ⟨x0, x1, x2, x3⟩ := bX.c4
    have hc := hv.cell
    have hnW : n0 ≤ W.heap.size := Nat.le_trans hn0 (by have := hv.lt; omega)
    have hpl : pre.length ≤ 1000 := by rw [jts_len] at hlt; omega
    gi_wp2_with (gi_at_builtin; refine wpListIn_append_own _ rfl _ _ 38 rfl n0 78 i0 _ 4 32 Tryz.underlying38 hi hz0 hz1 hz2 rfl (by decide) _ _ _ rfl (hrow.alloc _) ⟨W.heap.size, 0, none⟩ 1 1 (encSegment x) rfl rfl (newSeg_cells _ _ _) (elSegment.2 x).2 (by simp only [maxLen]; omega) (by omega) (by simp; omega) ?_; intro v' w1 hown' hgrow _; obtain ⟨g', cap', rfl⟩ := ownsRow_succ hown'; obtain ⟨hv1, hv2, hr2, hk2, hb2⟩ := hv.appended (by decide) hrow hnW hn0 hown' hgrow; have hc1 := hv1.cell; have hf1 := hv1.frozen)
    refine ⟨hk2.from _, ((KpS.alloc W _).trans (KpS.grown hgrow fun k e hk => ?_)).trans (KpS.setCell _ _ _ fun hk => ?_), ⟨⟨_, hv2, ?_, trivial⟩, ((bA1.alloc _).kept hgrow (bA1.not_row (by decide) hrow)).other (by omega) _⟩, hB1.trans hb2⟩
    · have h1 := (World.ownsRow.lt hrow k e).1
      rcases hk with hk | hk
      · omega
      · subst hk; exact bA1.not_row (by decide) hrow e.symm
    · dsimp only at hk; omega
    · rw [cellsSeg_snoc, List.length_append]; exact hr2
  case done =>
    rintro D zs W hD rfl ⟨⟨⟨v, hv, hrow, -⟩, bA1⟩, hB1⟩ hK
    have hc := hv.cell
    gi_wp2
    refine ⟨by simp, .inl ⟨_, _, rfl, run_takeDeferred hK, ?_⟩⟩
    exact ⟨_, results_tmp rfl _ _ _, v, rfl, ownsRow_putObj hrow _ hK rfl, hB1.trans (belowK_b (w := w) hn0 W D _ _ (by omega) hK rfl rfl)⟩
  case stop =>
    rintro D cc pre W _ _ h _
    exact h.elim
set_option maxRecDepth 100000 in
theorem segmentsOf_any (A : Option Addr) (c : Nat) (l : List (Int × Int)) (w : World) (hs : SeesE 2 encPoint w w.heap.size A l) (hl : l.length ≤ 1099511627776) :
    Calls Tryz.prog 66 #[.slice A l.length c] w (GivesE 4 encSegment 78 (sgV l) w) := by
  have HS := Lib.hid hs; clear hs
  go_enter Tryz.func66, Tryz.ntmps66
  go_wp2_with (first
    | (go_at_call 110; refine (walkLine_any A c l _ w.heap.size (by simp) (HS.out.alloc (Nat.le_refl _) _) hl).mono ?_; rintro e w1 ⟨Bx, A1, c1, rfl, hBx, bA, hS1, hB1⟩)
    | (go_at_call 109; refine (appendSeq_any Bx w.heap.size w.heap.size c1 A1 (lnV l) _ w1 bA hS1 (Nat.le_refl _) (Nat.le_trans (by simp) hB1.size) (by have := lnV_len l; omega) ((OwnE.lit w w.heap.size 78 (Nat.le_refl _)).belowAll hB1)).mono ?_; rintro e w2 ⟨v, rfl, ho2, hB2⟩))
  go_ret
  obtain ⟨A2, c2, rfl, -, -⟩ := ho2.form
  exact ⟨A2, c2, _, Lib.hid rfl, rfl, ho2, (((Below.refl _ w).alloc (Nat.le_refl _) _).trans (hB1.mono (by simp))).trans hB2⟩
end Go.Proofs.YtbnjaaegbmhopaaGreatDoor
end
section
/- errors.Is at a sentinel of errors.New's make: the sentinel itself, and nil. -/
namespace Go.Proofs.YtbnjaaegbmhopaaGreatDoor
open Go.RowKit Go.Extern.Stop Go.Stop Go.Extern

theorem isTypeOf (v : Value) (w : World) : (Extern.ReflectliteType.typeOf #[.iface 221 v]).run Tryz.prog w = .ok (.iface 151 (.agg #[.pointer (some ⟨1, 221, none⟩)])) w := by kernel_rfl
theorem isComparable (w : World) : ((Extern.ReflectliteType.method fun t => do Extern.Rtype.noPackHeld "Comparable" t; pure (Value.bool (← typeInfo t).comparable)) #[.agg #[.pointer (some ⟨1, 221, none⟩)]]).run Tryz.prog w = .ok (.bool true) w := by kernel_rfl
theorem compCall (w : World) : (callFunc 191 #[.agg #[.pointer (some ⟨1, 221, none⟩)]]).run Tryz.prog w = .ok (.value (.bool true)) w := by
  have h := @run_callFunc_extern Tryz.prog 191 _ (Extern.ReflectliteType.method fun t => do Extern.Rtype.noPackHeld "Comparable" t; pure (Value.bool (← typeInfo t).comparable)) Tryz.func191 (by kernel_rfl) (by kernel_rfl) (by kernel_rfl) (by kernel_rfl)
  rw [h, isComparable]; rfl
set_option maxRecDepth 100000 in
theorem isMethodComparable (v : Value) (w : World) : (Go.method 358 151 v "Comparable").run Tryz.prog w = .ok (191, v) w := by kernel_rfl
theorem isComp : (Tryz.prog.info? 221).map (·.comparable) = some true := by kernel_rfl
theorem isSize : (Tryz.prog.info? 246).map (·.size) = some 1 := by kernel_rfl
-- errors.Is(x, x), x a pointer to an errors.errorString.
set_option maxRecDepth 100000 in
theorem is_same (a : Addr) (w : World) :
    Calls Tryz.prog 46 #[.iface 221 (.pointer (some a)), .iface 221 (.pointer (some a))] w fun e w' => e = .returned (.bool true) ∧ w' = w := by
  obtain ⟨i, hi, hcmp⟩ := Option.map_eq_some_iff.1 isComp
  obtain ⟨j, hj, hjs⟩ := Option.map_eq_some_iff.1 isSize
  have h8 := @run_callFunc_extern Tryz.prog 79 _ Extern.ReflectliteType.typeOf Tryz.func79 (by kernel_rfl) (by kernel_rfl) (by kernel_rfl) (by kernel_rfl)
  have tT := isTypeOf
  have cT := compCall
  have mR := isMethodComparable
  have heq := run_eql_iface_ptr_same (P := Tryz.prog) w a Tryz.underlying73 Tryz.underlying221 hi hcmp hj
  go_enter Tryz.func46, Tryz.ntmps46
  go_wp2
  refine wp_loop_rounds 1 ?_
  rw [rounds_succ]
  go_wp2
  go_ret
  exact ⟨rfl, rfl⟩
-- errors.Is(nil, x).
set_option maxRecDepth 100000 in
theorem is_nil (b : Addr) (w : World) :
    Calls Tryz.prog 46 #[.nilIface, .iface 221 (.pointer (some b))] w fun e w' => e = .returned (.bool false) ∧ w' = w := by
  have hn := run_eql_iface_nil_left (P := Tryz.prog) w 221 (.pointer (some b)) Tryz.underlying73
  go_enter Tryz.func46, Tryz.ntmps46
  go_wp2
  go_ret
  exact ⟨rfl, rfl⟩
end Go.Proofs.YtbnjaaegbmhopaaGreatDoor
end
section
/- joinRing of package impl: the segments of a ring, or the sentinel. -/
namespace Go.Proofs.YtbnjaaegbmhopaaGreatDoor
open Go.ChangeShapes Go.WideShapes Go.ChangeAt Go.RowKit
set_option linter.unusedVariables false

/-- The variable errNoRing holds a pointer to an error of errors.New's make. -/
def ErrAt (a0 : Addr) (w : World) : Prop := w.cell? ⟨0, 0, none⟩ = some (.iface 221 (.pointer (some a0)))
section
variable {a0 : Addr} {w w' : World}
theorem ErrAt.lt (h : ErrAt a0 w) : 0 < w.heap.size := World.block_lt_of_cell? _ _ h
theorem ErrAt.below {B : Nat} (h : ErrAt a0 w) (hb : Below B w w') (hB : 0 < B) : ErrAt a0 w' := (hb.cell (p := ⟨0, 0, none⟩) hB).trans h
theorem ErrAt.all (h : ErrAt a0 w) (hb : Below w.heap.size w w') : ErrAt a0 w' := h.below hb h.lt
theorem ErrAt.drew (h : ErrAt a0 w) : ErrAt a0 w.drew := h
theorem ErrAt.alloc (h : ErrAt a0 w) (o : Obj) : ErrAt a0 (w.alloc o) := h.all ((Below.refl _ w).alloc (Nat.le_refl _) o)
end
set_option maxRecDepth 100000 in
set_option maxHeartbeats 1000000 in
theorem collect_any (Bx c1 : Nat) (A1 : Option Addr) (l : List (Int × Int)) (w : World) (M : Nat) (bA : Boxed w Bx 24 (.slice A1 l.length c1)) (hs : SeesE 2 encPoint w M A1 l) (hM : M ≤ w.heap.size) (hl : l.length ≤ 1000) :
    Calls Tryz.prog 76 #[.func (.func 115) #[] #[.pointer (some ⟨Bx, 0, none⟩)]] w fun e w' => ∃ v, e = .returned v ∧ OwnE 4 encSegment w' w.heap.size 78 v (jts l) ∧ Below w.heap.size w w' := by
  have HS := Lib.hid hs; have HA := Lib.hid bA
  clear hs bA
  go_enter Tryz.func76, Tryz.ntmps76
  go_wp2_with (go_at_call 109; refine (appendSeq_any Bx M w.heap.size c1 A1 l _ _ HA.out HS.out hM (Nat.le_refl _) hl (OwnE.nil _ _ _)).mono ?_; rintro e w2 ⟨v, rfl, ho2, hB2⟩)
  go_ret
  exact ⟨v, rfl, ho2, hB2⟩
/-- What joinRing gives. -/
def JoinOf (a0 : Addr) (l : List (Int × Int)) (w : World) (e : Ending) (w' : World) : Prop :=
  (isRg l = true ∧ ∃ A c L, Hid (L = rgS l) ∧ e = .returned (.tuple #[.slice A L.length c, .nilIface]) ∧ OwnE 4 encSegment w' w.heap.size 78 (.slice A L.length c) L ∧ Below w.heap.size w w') ∨
  (isRg l = false ∧ e = .returned (.tuple #[.slice none 0 0, .iface 221 (.pointer (some a0))]) ∧ Below w.heap.size w w')
set_option maxRecDepth 100000 in
set_option maxHeartbeats 1000000 in
theorem joinRing_any (a0 : Addr) (A : Option Addr) (c : Nat) (l : List (Int × Int)) (w : World) (hE : ErrAt a0 w) (hs : SeesE 2 encPoint w w.heap.size A l) (hl : l.length ≤ 274877906944) (hlc : l.length ≤ c) (hc : (c : Int) ≤ 9223372036854775807) :
    Calls Tryz.prog 45 #[.slice A l.length c] w (JoinOf a0 l w) := by
  have HS := Lib.hid hs; clear hs
  have HE := Lib.hid hE
  go_enter Tryz.func45, Tryz.ntmps45
  cases hin : inB l.length 3 10
  · have HN : Hid (isRg l = false) := Lib.hid (by rw [isRg_turn, hin]; rfl)
    have hE1 : w.drew.cell? ⟨0, 0, none⟩ = some (.iface 221 (.pointer (some a0))) := hE.drew
    unfold ErrAt at hE
    go_wp2_with (go_at_call 48; refine (in_is _ _ _ _ _ hin).mono ?_; rintro e w1 ⟨rfl, rfl⟩)
    go_region_with (fail)
    all_goals
      go_wp2
      go_ret2
      exact .inr ⟨HN.out, rfl, (Below.refl _ w).drew⟩
  · have h310 : 3 ≤ l.length ∧ l.length ≤ 10 := by simp only [inB, decide_eq_true_eq] at hin; omega
    obtain ⟨⟨x, y⟩, hx⟩ : ∃ p, l[0]? = some p := ⟨_, List.getElem?_eq_getElem (by omega)⟩
    obtain ⟨b, off, rfl, hb, -⟩ := HS.out 0 _ hx
    obtain ⟨k0', k1'⟩ := cellsPoint HS.out hx
    have k0 : w.cell? ⟨b, off, none⟩ = some (.int .i64 x) := by simpa using k0'
    have k1 : w.cell? ⟨b, off + 1, none⟩ = some (.int .i64 y) := by simpa using k1'
    clear k0' k1'
    have d0 : (w.alloc (.cells #[.int .i64 x, .int .i64 y] 33)).drew.cell? ⟨b, off, none⟩ = some (.int .i64 x) := (((Below.refl w.heap.size w).alloc (Nat.le_refl _) _).cell (p := ⟨b, off, none⟩) hb).trans k0
    have d1 : (w.alloc (.cells #[.int .i64 x, .int .i64 y] 33)).drew.cell? ⟨b, off + 1, none⟩ = some (.int .i64 y) := (((Below.refl w.heap.size w).alloc (Nat.le_refl _) _).cell (p := ⟨b, off + 1, none⟩) hb).trans k1
    have e0 : w.drew.cell? ⟨b, off, none⟩ = some (.int .i64 x) := k0
    have e1 : w.drew.cell? ⟨b, off + 1, none⟩ = some (.int .i64 y) := k1
    have D0 := Lib.hid d0; have D1 := Lib.hid d1; have E0 := Lib.hid e0; have E1 := Lib.hid e1
    have HB1 : Hid (Below w.heap.size w (w.alloc (.cells #[.int .i64 x, .int .i64 y] 33)).drew) := Lib.hid (((Below.refl _ w).alloc (Nat.le_refl _) _).drew)
    have HS1 : Hid (SeesE 2 encPoint w.drew w.drew.heap.size (some ⟨b, off, none⟩) l) := Lib.hid HS.out.drew
    have HS2 : Hid (SeesE 2 encPoint (w.alloc (.cells #[.int .i64 x, .int .i64 y] 33)).drew (w.alloc (.cells #[.int .i64 x, .int .i64 y] 33)).drew.heap.size (some ⟨b, off, none⟩) l) := Lib.hid ((HS.out.below HB1.out).mono HB1.out.size)
    have HX2 : Hid (SeesE 2 encPoint (w.alloc (.cells #[.int .i64 x, .int .i64 y] 33)).drew (w.alloc (.cells #[.int .i64 x, .int .i64 y] 33)).drew.heap.size (some ⟨w.heap.size, 0, none⟩) [(x, y)]) := Lib.hid ((seesE_new elPoint w (x, y) #[.int .i64 x, .int .i64 y] 33 _ (by show _ < (w.alloc _).heap.size; simp) rfl).drew)
    have HT : Hid (rgS l = jts (rotV l 0 ++ [(x, y)])) := Lib.hid (by
      rw [rotV_zero, rgS]
      cases l with
      | nil => simp at hx
      | cons p t => simp at hx; rw [hx]; rfl)
    have HR : Hid ((rotV l 0).length = l.length) := Lib.hid (by rw [rotV_zero])
    have h9 : l.length ≤ 10 := h310.2
    have HZ : Hid (isRg l = turnV true (rgS l)) := Lib.hid (by rw [isRg_turn, hin, Bool.true_and])
    have i0 : (0 : Int) < (l.length : Int) := by omega
    have i1 : 0 < l.length := by omega
    clear d0 d1 e0 e1 hx h310
    go_wp2_with (go_at_call 48; refine (in_is _ _ _ _ _ hin).mono ?_; rintro e w1 ⟨rfl, rfl⟩)
    go_region_held3 (fun w' => w'.cell? ⟨b, off, none⟩ = some (.int .i64 x) ∧ w'.cell? ⟨b, off + 1, none⟩ = some (.int .i64 y)) (first | with_reducible exact ⟨k0, k1⟩ | with_reducible exact ⟨E0.out, E1.out⟩ | with_reducible exact ⟨D0.out, D1.out⟩ | with_reducible exact hQ.out | with_reducible exact hQ2.out | with_reducible exact hQ3.out) (first
      | (go_at_call 13; refine (rotateRing_any _ c l 0 _ HS1.out hl hlc hc rfl).mono ?_; rintro e w1 ⟨A1, c1, L, hL, rfl, ho1, hb1⟩; have HL := hL; have HO1 := Lib.hid (ho1.alloc (.cells #[.int .i64 x, .int .i64 y] 33)); have hw1 : w.heap.size ≤ w1.heap.size := hb1.size; have HW1 : w.heap.size ≤ (w1.alloc (.cells #[.int .i64 x, .int .i64 y] 33)).heap.size := Nat.le_trans hw1 (by simp); have HX1 := Lib.hid (seesE_new elPoint w1 (x, y) #[.int .i64 x, .int .i64 y] 33 (w1.heap.size + 1) (Nat.lt_succ_self _) rfl); have HL63 : L.length + [(x, y)].length ≤ 1099511627776 := (by rw [HL.out, HR.out]; show l.length + 1 ≤ _; omega); have HBX := Lib.hid (((Below.refl _ w).drew.trans hb1).alloc hw1 (.cells #[.int .i64 x, .int .i64 y] 33)); have hQ := Lib.hid (And.intro ((hb1.cell (World.block_lt_of_cell? _ _ E0.out)).trans E0.out) ((hb1.cell (World.block_lt_of_cell? _ _ E1.out)).trans E1.out)); have hQ2 := Lib.hid (And.intro ((((Below.refl w1.heap.size w1).alloc (Nat.le_refl _) (.cells #[.int .i64 x, .int .i64 y] 33)).cell (World.block_lt_of_cell? _ _ hQ.out.1)).trans hQ.out.1) ((((Below.refl w1.heap.size w1).alloc (Nat.le_refl _) (.cells #[.int .i64 x, .int .i64 y] 33)).cell (World.block_lt_of_cell? _ _ hQ.out.2)).trans hQ.out.2)))
      | (go_at_call 13; refine (rotateRing_any _ c l 0 _ HS2.out hl hlc hc rfl).mono ?_; rintro e w1 ⟨A1, c1, L, hL, rfl, ho1, hb1⟩; have HL := hL; have HO2 := Lib.hid (ho1.mono HB1.out.size); have HW2 : w.heap.size ≤ w1.heap.size := Nat.le_trans HB1.out.size hb1.size; have HX3 := Lib.hid (HX2.out.below hb1); have HL63 : L.length + [(x, y)].length ≤ 1099511627776 := (by rw [HL.out, HR.out]; show l.length + 1 ≤ _; omega); have HBY := Lib.hid (HB1.out.trans (hb1.mono HB1.out.size)); have hQ := Lib.hid (And.intro ((hb1.cell (World.block_lt_of_cell? _ _ D0.out)).trans D0.out) ((hb1.cell (World.block_lt_of_cell? _ _ D1.out)).trans D1.out)))
      | (refine stepPt (w1.alloc (.cells #[.int .i64 x, .int .i64 y] 33)) _ _ (by rfl) w.heap.size _ L (by rfl) HO1.out (w1.heap.size + 1) (some ⟨w1.heap.size, 0, none⟩) 1 1 [(x, y)] (by rfl) (by rfl) HX1.out HL63 HW1 ?_; intro A3 c3 L3 w3 hL3 h2 h3 ho3 hb3; have HL3 : Hid (jts L3 = rgS l) := Lib.hid (by rw [hL3.out, HL.out]; exact HT.out.symm); have HO3 := Lib.hid ho3; have h11 : L3.length ≤ 1000 := (by rw [HL.out, HR.out] at h2; simp only [List.length_singleton] at h2; omega); have HBB := Lib.hid (HBX.out.trans hb3); have hQ3 := Lib.hid (And.intro ((hb3.cell hb).trans hQ2.out.1) ((hb3.cell hb).trans hQ2.out.2)))
      | (refine stepPt w1 _ _ (by rfl) w.heap.size _ L (by rfl) HO2.out (w.alloc (.cells #[.int .i64 x, .int .i64 y] 33)).drew.heap.size (some ⟨w.heap.size, 0, none⟩) 1 1 [(x, y)] (by rfl) (by rfl) HX3.out HL63 HW2 ?_; intro A3 c3 L3 w3 hL3 h2 h3 ho3 hb3; have HL3 : Hid (jts L3 = rgS l) := Lib.hid (by rw [hL3.out, HL.out]; exact HT.out.symm); have HO3 := Lib.hid ho3; have h11 : L3.length ≤ 1000 := (by rw [HL.out, HR.out] at h2; simp only [List.length_singleton] at h2; omega); have HBB := Lib.hid (HBY.out.trans hb3); have hQ3 := Lib.hid (And.intro ((hb3.cell hb).trans hQ.out.1) ((hb3.cell hb).trans hQ.out.2))) | fail)
    all_goals
      go_wp2_with (first
        | (go_at_call 77; refine (jointsOf_any A3 L3.length c3 _).mono ?_; rintro e w4 ⟨rfl, rfl⟩)
        | (go_at_call 76; refine (collect_any w3.heap.size c3 A3 L3 _ w3.heap.size (Boxed.new w3 _ _) ((HO3.out.sees elPoint).alloc (Nat.le_refl _) _) (by simp) h11).mono ?_; rintro e w5 ⟨v, rfl, ho5, hb5⟩; obtain ⟨L5, hL5⟩ : ∃ L5, jts L3 = L5 := ⟨_, rfl⟩; rw [hL5] at ho5; obtain ⟨A5, c5, rfl, -, -⟩ := ho5.form; have HL5 : Hid (L5 = rgS l) := Lib.hid (by rw [← hL5]; exact HL3.out); have HO5 := Lib.hid (ho5.mono (C := w.heap.size) (by simp; exact Nat.le_trans HBB.out.size (by omega))); have HB5 := Lib.hid ((HBB.out.alloc HBB.out.size (.cells #[.slice A3 L3.length c3] 24)).trans (hb5.mono (by simp; exact Nat.le_trans HBB.out.size (by omega))))))
      have h9 : L5.length ≤ 1000 := by rw [HL5.out, rgS_len]; omega
      have HE5 : Hid (ErrAt a0 w5) := Lib.hid (HE.out.all HB5.out)
      cases hz : turnV true L5
      · have HN : Hid (isRg l = false) := Lib.hid (by rw [HZ.out, ← HL5.out]; exact hz)
        refine (meetInTurn_is A5 c5 true L5 _ (HO5.out.sees elSegment) h9 _ hz).mono ?_
        rintro e w6 ⟨rfl, hb6⟩
        have HE6 : ErrAt a0 w6 := HE5.out.all hb6
        have HB6 := Lib.hid (HB5.out.trans (hb6.mono HB5.out.size))
        unfold ErrAt at HE6
        clear hb6
        go_wp2
        go_region_with (fail)
        all_goals
          go_wp2
          go_ret2
          exact .inr ⟨HN.out, rfl, HB6.out.drew⟩
      · have HN : Hid (isRg l = true) := Lib.hid (by rw [HZ.out, ← HL5.out]; exact hz)
        refine (meetInTurn_is A5 c5 true L5 _ (HO5.out.sees elSegment) h9 _ hz).mono ?_
        rintro e w6 ⟨rfl, hb6⟩
        have HB6 := Lib.hid (HB5.out.trans (hb6.mono HB5.out.size))
        have HO6 := Lib.hid (HO5.out.belowAll hb6)
        clear hb6
        go_wp2
        go_ret2
        exact .inl ⟨HN.out, A5, c5, L5, HL5, rfl, HO6.out, HB6.out⟩
end Go.Proofs.YtbnjaaegbmhopaaGreatDoor
end
section
/- IsRing, TwiceArea and RingSegments of package impl. -/
namespace Go.Proofs.YtbnjaaegbmhopaaGreatDoor
open Go.ChangeShapes Go.WideShapes Go.ChangeAt Go.RowKit
set_option linter.unusedVariables false

theorem joinRing_yes (a0 : Addr) (A : Option Addr) (c : Nat) (l : List (Int × Int)) (w : World) (hE : ErrAt a0 w) (hs : SeesE 2 encPoint w w.heap.size A l) (hl : l.length ≤ 274877906944) (hlc : l.length ≤ c) (hc : (c : Int) ≤ 9223372036854775807) (hz : isRg l = true) :
    Calls Tryz.prog 45 #[.slice A l.length c] w fun e w' => ∃ A c L, Hid (L = rgS l) ∧ e = .returned (.tuple #[.slice A L.length c, .nilIface]) ∧ OwnE 4 encSegment w' w.heap.size 78 (.slice A L.length c) L ∧ Below w.heap.size w w' :=
  (joinRing_any a0 A c l w hE hs hl hlc hc).mono fun e w' h => h.elim (fun h => h.2) (fun h => absurd (hz.symm.trans h.1) (by decide))
theorem joinRing_no (a0 : Addr) (A : Option Addr) (c : Nat) (l : List (Int × Int)) (w : World) (hE : ErrAt a0 w) (hs : SeesE 2 encPoint w w.heap.size A l) (hl : l.length ≤ 274877906944) (hlc : l.length ≤ c) (hc : (c : Int) ≤ 9223372036854775807) (hz : isRg l = false) :
    Calls Tryz.prog 45 #[.slice A l.length c] w fun e w' => e = .returned (.tuple #[.slice none 0 0, .iface 221 (.pointer (some a0))]) ∧ Below w.heap.size w w' :=
  (joinRing_any a0 A c l w hE hs hl hlc hc).mono fun e w' h => h.elim (fun h => absurd (hz.symm.trans h.1) (by decide)) (fun h => h.2)
set_option maxRecDepth 100000 in
set_option maxHeartbeats 1000000 in
theorem isRing_is (a0 : Addr) (A : Option Addr) (c : Nat) (l : List (Int × Int)) (w : World) (hE : ErrAt a0 w) (hs : SeesE 2 encPoint w w.heap.size A l) (hl : l.length ≤ 274877906944) (hlc : l.length ≤ c) (hc : (c : Int) ≤ 9223372036854775807) (z : Bool) (hz : isRg l = z) :
    Calls Tryz.prog 10 #[.slice A l.length c] w fun e w' => e = .returned (.bool z) ∧ Below w.heap.size w w' := by
  have HE := Lib.hid hE
  have HS := Lib.hid hs
  clear hE hs
  go_enter Tryz.func10, Tryz.ntmps10
  cases z
  · go_wp2_with fail
    refine (joinRing_no a0 A c l _ HE.out HS.out hl hlc hc hz).mono ?_
    rintro e w1 ⟨rfl, hb1⟩
    have hE1 : ErrAt a0 w1 := HE.out.all hb1
    unfold ErrAt at hE1
    have HB1 := Lib.hid hb1
    clear hb1
    go_wp2_with (go_at_call 46; refine (is_same a0 _).mono ?_; rintro e w2 ⟨rfl, rfl⟩)
    go_ret
    exact ⟨rfl, HB1.out⟩
  · go_wp2_with fail
    refine (joinRing_yes a0 A c l _ HE.out HS.out hl hlc hc hz).mono ?_
    rintro e w1 ⟨A1, c1, L, hL, rfl, ho1, hb1⟩
    have hE1 : ErrAt a0 w1 := HE.out.all hb1
    unfold ErrAt at hE1
    have HB1 := Lib.hid hb1; have HO1 := Lib.hid ho1; have HL := hL
    clear hb1 ho1 hL
    go_wp2_with (go_at_call 46; refine (is_nil a0 _).mono ?_; rintro e w2 ⟨rfl, rfl⟩)
    go_ret
    exact ⟨rfl, HB1.out⟩
/-- The ring's segments, or none. -/
def rsV (l : List (Int × Int)) : List (Int × Int × Int × Int) := if isRg l = true then rgS l else []
theorem rsV_len (l : List (Int × Int)) : (rsV l).length ≤ l.length := by
  unfold rsV; split
  · rw [rgS_len]; exact Nat.le_refl _
  · simp
set_option maxRecDepth 100000 in
set_option maxHeartbeats 1000000 in
theorem ringSegments_any (a0 : Addr) (A : Option Addr) (c : Nat) (l : List (Int × Int)) (w : World) (hE : ErrAt a0 w) (hs : SeesE 2 encPoint w w.heap.size A l) (hl : l.length ≤ 274877906944) (hlc : l.length ≤ c) (hc : (c : Int) ≤ 9223372036854775807) :
    Calls Tryz.prog 17 #[.slice A l.length c] w (GivesE 4 encSegment 78 (rsV l) w) := by
  have HE := Lib.hid hE
  have HS := Lib.hid hs
  clear hE hs
  cases hz : isRg l
  · have HV : Hid (rsV l = []) := Lib.hid (by unfold rsV; rw [hz]; rfl)
    go_enter Tryz.func17, Tryz.ntmps17
    go_wp2_with fail
    refine (joinRing_no a0 A c l _ HE.out HS.out hl hlc hc hz).mono ?_
    rintro e w1 ⟨rfl, hb1⟩
    have hE1 : ErrAt a0 w1 := HE.out.all hb1
    unfold ErrAt at hE1
    have HB1 := Lib.hid hb1
    clear hb1
    go_wp2_with (go_at_call 46; refine (is_same a0 _).mono ?_; rintro e w2 ⟨rfl, rfl⟩)
    go_ret
    exact ⟨_, _, [], Lib.hid HV.out.symm, rfl, (OwnE.lit w2 w2.heap.size 78 (Nat.le_refl _)).mono HB1.out.size, HB1.out.alloc HB1.out.size _⟩
  · have HV : Hid (rsV l = rgS l) := Lib.hid (by unfold rsV; rw [hz]; rfl)
    go_enter Tryz.func17, Tryz.ntmps17
    go_wp2_with fail
    refine (joinRing_yes a0 A c l _ HE.out HS.out hl hlc hc hz).mono ?_
    rintro e w1 ⟨A1, c1, L, hL, rfl, ho1, hb1⟩
    have hE1 : ErrAt a0 w1 := HE.out.all hb1
    unfold ErrAt at hE1
    have HB1 := Lib.hid hb1; have HO1 := Lib.hid ho1; have HL := hL
    clear hb1 ho1 hL
    go_wp2_with (go_at_call 46; refine (is_nil a0 _).mono ?_; rintro e w2 ⟨rfl, rfl⟩)
    go_ret
    exact ⟨A1, c1, L, Lib.hid (by rw [HL.out, HV.out]), rfl, HO1.out, HB1.out⟩
/-- The area's sum. -/
def arV (S : List (Int × Int × Int × Int)) : Int := (S.map arS).sum
theorem arV_take {S : List (Int × Int × Int × Int)} {j : Nat} {x : Int × Int × Int × Int} (h : S[j]? = some x) : arV (S.take j) + arS x = arV (S.take (j + 1)) := by
  unfold arV
  rw [List.take_add_one, h, List.map_append, List.sum_append]
  simp
theorem arS_bd {x : Int × Int × Int × Int} (h : sOk x = true) : (0 ≤ x.1 * x.2.2.2 ∧ x.1 * x.2.2.2 ≤ 40000) ∧ (0 ≤ x.2.1 * x.2.2.1 ∧ x.2.1 * x.2.2.1 ≤ 40000) := by
  obtain ⟨h1, h2, -⟩ := isS_at h
  exact ⟨⟨Int.mul_nonneg h1.1 h2.2.2.1, Int.le_trans (Int.mul_le_mul h1.2.1 h2.2.2.2 h2.2.2.1 (by omega)) (by omega)⟩, ⟨Int.mul_nonneg h1.2.2.1 h2.1, Int.le_trans (Int.mul_le_mul h1.2.2.2 h2.2.1 h2.1 (by omega)) (by omega)⟩⟩
theorem arV_bd {S : List (Int × Int × Int × Int)} (h : ∀ x ∈ S, sOk x = true) : -(40000 * (S.length : Int)) ≤ arV S ∧ arV S ≤ 40000 * (S.length : Int) := by
  induction S with
  | nil => simp [arV]
  | cons x t ih =>
    have h1 := ih fun y hy => h y (List.mem_cons_of_mem _ hy)
    have h2 := arS_bd (h x List.mem_cons_self)
    have h3 : arV (x :: t) = arS x + arV t := by simp [arV]
    have h4 : arS x = x.1 * x.2.2.2 - x.2.1 * x.2.2.1 := rfl
    rw [List.length_cons, h3, h4]
    omega
theorem arV_bd_take {S : List (Int × Int × Int × Int)} (h : ∀ x ∈ S, sOk x = true) (hn : S.length ≤ 10) (j : Nat) : -400000 ≤ arV (S.take j) ∧ arV (S.take j) ≤ 400000 := by
  have := arV_bd (S := S.take j) (fun x hx => h x (List.mem_of_mem_take hx))
  have hl : (S.take j).length ≤ 10 := by rw [List.length_take]; omega
  omega
theorem twA_yes {l : List (Int × Int)} (h : isRg l = true) : twA l = arV (rgS l) := by unfold twA; rw [if_pos h]; rfl
theorem twA_no {l : List (Int × Int)} (h : isRg l = false) : twA l = 0 := by unfold twA; rw [h]; rfl
set_option maxRecDepth 100000 in
set_option maxHeartbeats 1000000 in
theorem twiceArea_is (a0 : Addr) (A : Option Addr) (c : Nat) (l : List (Int × Int)) (w : World) (hE : ErrAt a0 w) (hs : SeesE 2 encPoint w w.heap.size A l) (hl : l.length ≤ 274877906944) (hlc : l.length ≤ c) (hc : (c : Int) ≤ 9223372036854775807) (z : Int) (hz : twA l = z) :
    Calls Tryz.prog 11 #[.slice A l.length c] w fun e w' => e = .returned (.int .i64 z) ∧ Below w.heap.size w w' := by
  have HE := Lib.hid hE
  have HS := Lib.hid hs
  have HV := Lib.hid hz
  clear hE hs hz
  cases hz : isRg l
  · obtain rfl : z = 0 := by rw [← HV.out, twA_no hz]
    go_enter Tryz.func11, Tryz.ntmps11
    go_wp2_with fail
    refine (joinRing_no a0 A c l _ HE.out HS.out hl hlc hc hz).mono ?_
    rintro e w1 ⟨rfl, hb1⟩
    have hE1 : ErrAt a0 w1 := HE.out.all hb1
    unfold ErrAt at hE1
    have HB1 := Lib.hid hb1
    clear hb1
    go_wp2_with (go_at_call 46; refine (is_same a0 _).mono ?_; rintro e w2 ⟨rfl, rfl⟩)
    go_ret
    exact ⟨rfl, HB1.out⟩
  · have HOK : Hid ((∀ x ∈ rgS l, sOk x = true) ∧ (rgS l).length ≤ 10) := Lib.hid ⟨((isRg_iff l).1 hz).2.1, by rw [rgS_len]; exact ((isRg_iff l).1 hz).1.2⟩
    have HW : Hid (arV (rgS l) = z) := Lib.hid (by rw [← twA_yes hz]; exact HV.out)
    go_enter Tryz.func11, Tryz.ntmps11
    go_wp2_with fail
    refine (joinRing_yes a0 A c l _ HE.out HS.out hl hlc hc hz).mono ?_
    rintro e w1 ⟨A1, c1, L, hL, rfl, ho1, hb1⟩
    have hE1 : ErrAt a0 w1 := HE.out.all hb1
    unfold ErrAt at hE1
    have HB1 := Lib.hid hb1; have HO1 := Lib.hid ho1; have HL := hL
    clear hb1 ho1 hL
    go_wp2_with (go_at_call 46; refine (is_nil a0 _).mono ?_; rintro e w2 ⟨rfl, rfl⟩)
    have h10 : L.length ≤ 10 := by rw [HL.out]; exact HOK.out.2
    go_loopw [5, 18] (fun n i wr => ∃ j : Nat, j ≤ L.length ∧ n = .int .i64 (arV (L.take j)) ∧ i = .int .i64 j ∧ Hid (OwnE 4 encSegment wr w.heap.size 78 (.slice A1 L.length c1) L) ∧ Hid (Below w.heap.size w wr)) (fun _ i _ => L.length - (intOf i).toNat)
    case atStart => exact ⟨0, Nat.zero_le _, rfl, rfl, HO1, HB1⟩
    case round =>
      obtain ⟨j, hj, rfl, rfl, HO, HB⟩ := hrel
      clear HO1 HB1
      by_cases hlt : j < L.length
      · have hlt' : (j : Int) < (L.length : Int) := by omega
        obtain ⟨b, off, x, rfl, hbl, hx, -⟩ := (HO.out.sees elSegment).lt hlt
        obtain ⟨k0, k1, k2, k3⟩ := cells4 (HO.out.sees elSegment) hx
        have hx' : sOk x = true := HOK.out.1 x (by rw [← HL.out]; exact List.mem_of_getElem? hx)
        obtain ⟨⟨p0, p1⟩, q0, q1⟩ := arS_bd hx'
        obtain ⟨N, hN⟩ : ∃ N, arV (L.take j) = N := ⟨_, rfl⟩
        have hNb : -400000 ≤ N ∧ N ≤ 400000 := by rw [← hN]; exact arV_bd_take (by rw [HL.out]; exact HOK.out.1) h10 j
        have HT : Hid (N + (x.1 * x.2.2.2 - x.2.1 * x.2.2.1) = arV (L.take (j + 1))) := Lib.hid (by rw [← hN]; exact arV_take hx)
        rw [hN]
        clear hN hx hx'
        go_wp2
        go_roundw
        case rel => exact ⟨j + 1, by omega, by rw [← HT.out], by go_num, Lib.hid (HO.out.alloc _), Lib.hid (HB.out.alloc HB.out.size _)⟩
        case measure => simp [intOf]; omega
      · obtain rfl : j = L.length := by omega
        rw [List.take_length]
        go_wp2
        go_ret
        exact ⟨by rw [← HW.out, HL.out]; rfl, HB.out⟩
end Go.Proofs.YtbnjaaegbmhopaaGreatDoor
end
section
/- Rings in the model: IsRing and RingSegments. -/
namespace Go.Proofs.YtbnjaaegbmhopaaGreatDoor
open Go.ChangeShapes Go.WideShapes Go.ChangeAt Go.RowKit
set_option linter.unusedVariables false

theorem sIsSegS_is (s : Int × Int × Int × Int) (k : Bool) (w : World) (h : sOk s = k) :
    Calls Tryz.prog 136 #[sV s] w fun e w' => e = .returned (.bool k) ∧ Below w.heap.size w w' := sIsSegment_is _ _ _ _ k w h
theorem rg_no_seg {l : List (Int × Int)} {i : Nat} {s : Int × Int × Int × Int} (hs : (rgS l)[i]? = some s) (h : sOk s = false) : isRg l = false := by
  cases hh : isRg l
  · rfl
  · rw [((isRg_iff l).1 hh).2.1 s (List.mem_of_getElem? hs)] at h; cases h
theorem rg_no_turn {l : List (Int × Int)} {i k : Nat} {u v : Int × Int × Int × Int} (hi : (rgS l)[i]? = some u) (hk : (rgS l)[k]? = some v) (hik : i < k) (h : ¬ howS u v = wantC true (rgS l).length i k) : isRg l = false := by
  rw [isRg_turn, turn_no hi hk hik h, Bool.and_false]
set_option maxRecDepth 100000 in
set_option maxHeartbeats 2000000 in
theorem sIsRing_is (A : Option Addr) (c : Nat) (l : List (Int × Int)) (w : World) (hs : SeesE 2 encPoint w w.heap.size A l) (hl : l.length ≤ 274877906944) (z : Bool) (hz : isRg l = z) :
    Calls Tryz.prog 105 #[.slice A l.length c] w fun e w' => e = .returned (.bool z) ∧ Below w.heap.size w w' := by
  have HS := Lib.hid hs
  have HZ := Lib.hid hz
  clear hs hz
  go_enter Tryz.func105, Tryz.ntmps105
  cases hin : inB l.length 3 10
  · obtain rfl : z = false := by rw [← HZ.out, isRg_turn, hin]; rfl
    go_wp2_with (go_at_call 101; refine (l1in_is _ _ _ _ _ hin).mono ?_; rintro e w1 ⟨rfl, rfl⟩)
    go_ret
    exact ⟨rfl, Below.refl _ _⟩
  · have h310 : 3 ≤ l.length ∧ l.length ≤ 10 := by simp only [inB, decide_eq_true_eq] at hin; omega
    go_wp2_with (first
      | (go_at_call 101; refine (l1in_is _ _ _ _ _ hin).mono ?_; rintro e w1 ⟨rfl, rfl⟩)
      | (go_at_call 107; refine (l7Segments_any A c l _ HS.out hl).mono ?_; rintro e w1 ⟨A1, c1, L, hL, rfl, ho1, hb1⟩))
    have HO1 := Lib.hid ho1; have HB1 := Lib.hid hb1; have HL := hL
    have h10 : L.length ≤ 10 := by rw [hL.out, rgS_len]; exact h310.2
    have HTV : Hid (turnV true L = z) := Lib.hid (by rw [← HZ.out, isRg_turn, hin, Bool.true_and, HL.out])
    clear ho1 hb1 hL h310
    go_loopw [4] (fun i wr => ∃ j : Nat, j ≤ L.length ∧ i = .int .i64 j ∧ Hid (∀ k, k < j → ∀ i, i < k → prOk true L i k = true) ∧ Hid (OwnE 4 encSegment wr w.heap.size 78 (.slice A1 L.length c1) L) ∧ Hid (Below w.heap.size w wr)) (fun i _ => L.length - (intOf i).toNat)
    case atStart => exact ⟨0, Nat.zero_le _, rfl, Lib.hid (fun k hk => by omega), HO1, HB1⟩
    case round =>
      obtain ⟨i, hi, rfl, hp, HO, HB⟩ := hrel
      clear HO1 HB1
      by_cases hlt : i < L.length
      · have hli : (i : Int) < (L.length : Int) := by omega
        obtain ⟨b, off, v, rfl, hbl, hv, -⟩ := (HO.out.sees elSegment).lt hlt
        obtain ⟨k4, k5, k6, k7⟩ := cells4 (HO.out.sees elSegment) hv
        have HV := Lib.hid hv
        have HV' : Hid ((rgS l)[i]? = some v) := Lib.hid (by rw [← HL.out]; exact hv)
        clear hv
        cases hok : sOk v
        · obtain rfl : z = false := HZ.out.symm.trans (rg_no_seg HV'.out hok)
          go_wp2_with (go_at_call 136; refine (sIsSegS_is v false _ hok).mono ?_; rintro e w9 ⟨rfl, hb9⟩)
          go_ret
          exact ⟨rfl, HB.out.trans (hb9.mono HB.out.size)⟩
        · go_wp2_with (go_at_call 136; refine (sIsSegS_is v true _ hok).mono ?_; rintro e w9 ⟨rfl, hb9⟩; have HB9 := Lib.hid (HB.out.trans (hb9.mono HB.out.size)); have HO9 := Lib.hid (HO.out.belowAll hb9))
          clear hb9 k4 k5 k6 k7
          go_loopw [5] (fun k wx => ∃ j : Nat, j ≤ i ∧ k = .int .i64 j ∧ Hid (∀ q, q < j → prOk true L q i = true) ∧ Hid (OwnE 4 encSegment wx w.heap.size 78 (.slice (some ⟨b, off, none⟩) L.length c1) L) ∧ Hid (Below w.heap.size w wx)) (fun k _ => i - (intOf k).toNat)
          case atStart => exact ⟨0, Nat.zero_le _, rfl, Lib.hid (fun k hk => by omega), HO9, HB9⟩
          case round =>
            obtain ⟨j, hj, rfl, hq, HO, HB⟩ := hrel
            by_cases hlj : j < i
            · have hlj' : (j : Int) < (L.length : Int) := by omega
              have hlj2 : (j : Int) < (i : Int) := by omega
              obtain ⟨u, hu⟩ : ∃ u, L[j]? = some u := ⟨_, List.getElem?_eq_getElem (by omega)⟩
              obtain ⟨k0, k1, k2, k3⟩ := cells4 (HO.out.sees elSegment) hu
              obtain ⟨k4, k5, k6, k7⟩ := cells4 (HO.out.sees elSegment) HV.out
              have HU := Lib.hid hu
              have HU' : Hid ((rgS l)[j]? = some u) := Lib.hid (by rw [← HL.out]; exact hu)
              clear hu
              obtain ⟨m, hm⟩ : ∃ m, howS v u = m := ⟨_, rfl⟩
              have HM : Hid (howS u v = m) := Lib.hid (by rw [← hm]; exact howS_comm v u)
              have hw1 : wrap64 ((j : Int) + 1) = (j : Int) + 1 := by unfold wrap64; omega
              have hw2 : wrap64 ((i : Int) + 1) = (i : Int) + 1 := by unfold wrap64; omega
              by_cases he : j + 1 = i
              · have he1 : ((j : Int) + 1 == (i : Int)) = true := by simp; omega
                have he2 : (j : Int) + 1 = (i : Int) := by omega
                have HWn : Hid (wantC true L.length j i = 1) := Lib.hid (if_pos (.inl he))
                by_cases h1 : m = 1
                · subst h1
                  go_wp2
                  go_region_held3 (fun w' => (w'.cell? ⟨b, off + j * 4, none⟩ = some (.int .i64 u.1) ∧ w'.cell? ⟨b, off + j * 4 + 1, none⟩ = some (.int .i64 u.2.1) ∧ w'.cell? ⟨b, off + j * 4 + 2, none⟩ = some (.int .i64 u.2.2.1) ∧ w'.cell? ⟨b, off + j * 4 + 3, none⟩ = some (.int .i64 u.2.2.2)) ∧ (w'.cell? ⟨b, off + i * 4, none⟩ = some (.int .i64 v.1) ∧ w'.cell? ⟨b, off + i * 4 + 1, none⟩ = some (.int .i64 v.2.1) ∧ w'.cell? ⟨b, off + i * 4 + 2, none⟩ = some (.int .i64 v.2.2.1) ∧ w'.cell? ⟨b, off + i * 4 + 3, none⟩ = some (.int .i64 v.2.2.2))) (first | exact ⟨⟨k0, k1, k2, k3⟩, ⟨k4, k5, k6, k7⟩⟩ | exact hQ) (first
                    | (go_at_call 113; refine (sHowS_is v u _ _ hm).mono ?_; rintro e w9 ⟨rfl, hb9⟩; have HB9 := Lib.hid (HB.out.drew.trans (hb9.mono HB.out.size)); have HO9 := Lib.hid ((HO.out.drew).belowAll hb9); have hQ := And.intro (cells4 (HO9.out.sees elSegment) HU.out) (cells4 (HO9.out.sees elSegment) HV.out)) | fail)
                  all_goals
                    go_wp2
                    go_roundw
                    case rel => exact ⟨j + 1, by omega, by go_num, Lib.hid (upto_step hq.out (pr_ok HU.out HV.out (HM.out.trans HWn.out.symm))), HO9, HB9⟩
                    case measure => simp [intOf]; omega
                · obtain rfl : z = false := HZ.out.symm.trans (rg_no_turn HU'.out HV'.out hlj (by rw [← HL.out, HM.out, HWn.out]; exact h1))
                  go_wp2
                  go_region_held3 (fun w' => (w'.cell? ⟨b, off + j * 4, none⟩ = some (.int .i64 u.1) ∧ w'.cell? ⟨b, off + j * 4 + 1, none⟩ = some (.int .i64 u.2.1) ∧ w'.cell? ⟨b, off + j * 4 + 2, none⟩ = some (.int .i64 u.2.2.1) ∧ w'.cell? ⟨b, off + j * 4 + 3, none⟩ = some (.int .i64 u.2.2.2)) ∧ (w'.cell? ⟨b, off + i * 4, none⟩ = some (.int .i64 v.1) ∧ w'.cell? ⟨b, off + i * 4 + 1, none⟩ = some (.int .i64 v.2.1) ∧ w'.cell? ⟨b, off + i * 4 + 2, none⟩ = some (.int .i64 v.2.2.1) ∧ w'.cell? ⟨b, off + i * 4 + 3, none⟩ = some (.int .i64 v.2.2.2))) (first | exact ⟨⟨k0, k1, k2, k3⟩, ⟨k4, k5, k6, k7⟩⟩ | exact hQ) (first
                    | (go_at_call 113; refine (sHowS_is v u _ _ hm).mono ?_; rintro e w9 ⟨rfl, hb9⟩; have HB9 := Lib.hid (HB.out.drew.trans (hb9.mono HB.out.size)); have HO9 := Lib.hid ((HO.out.drew).belowAll hb9); have hQ := And.intro (cells4 (HO9.out.sees elSegment) HU.out) (cells4 (HO9.out.sees elSegment) HV.out)) | fail)
                  all_goals
                    go_wp2
                    go_ret
                    exact ⟨rfl, HB9.out⟩
              · have he1 : ((j : Int) + 1 == (i : Int)) = false := by simp; omega
                have he2 : ¬ ((j : Int) + 1 = (i : Int)) := by omega
                by_cases hj0 : j = 0
                · have hj1 : ((j : Int) == 0) = true := by simp; omega
                  have HJ0 := Lib.hid hj0
                  clear hj0
                  by_cases hi0 : i + 1 = L.length
                  · have hi1 : ((i : Int) + 1 == (L.length : Int)) = true := by simp; omega
                    have hi2 : (i : Int) + 1 = (L.length : Int) := by omega
                    have HWn : Hid (wantC true L.length j i = 1) := Lib.hid (if_pos (.inr ⟨rfl, HJ0.out, hi0⟩))
                    by_cases h1 : m = 1
                    · subst h1
                      go_wp2
                      go_region_held3 (fun w' => (w'.cell? ⟨b, off + j * 4, none⟩ = some (.int .i64 u.1) ∧ w'.cell? ⟨b, off + j * 4 + 1, none⟩ = some (.int .i64 u.2.1) ∧ w'.cell? ⟨b, off + j * 4 + 2, none⟩ = some (.int .i64 u.2.2.1) ∧ w'.cell? ⟨b, off + j * 4 + 3, none⟩ = some (.int .i64 u.2.2.2)) ∧ (w'.cell? ⟨b, off + i * 4, none⟩ = some (.int .i64 v.1) ∧ w'.cell? ⟨b, off + i * 4 + 1, none⟩ = some (.int .i64 v.2.1) ∧ w'.cell? ⟨b, off + i * 4 + 2, none⟩ = some (.int .i64 v.2.2.1) ∧ w'.cell? ⟨b, off + i * 4 + 3, none⟩ = some (.int .i64 v.2.2.2))) (first | exact ⟨⟨k0, k1, k2, k3⟩, ⟨k4, k5, k6, k7⟩⟩ | exact hQ) (first
                        | (go_at_call 113; refine (sHowS_is v u _ _ hm).mono ?_; rintro e w9 ⟨rfl, hb9⟩; have HB9 := Lib.hid (HB.out.drew.trans (hb9.mono HB.out.size)); have HO9 := Lib.hid ((HO.out.drew).belowAll hb9); have hQ := And.intro (cells4 (HO9.out.sees elSegment) HU.out) (cells4 (HO9.out.sees elSegment) HV.out)) | fail)
                      all_goals
                        go_wp2
                        go_roundw
                        case rel => exact ⟨j + 1, by omega, by go_num, Lib.hid (upto_step hq.out (pr_ok HU.out HV.out (HM.out.trans HWn.out.symm))), HO9, HB9⟩
                        case measure => simp [intOf]; omega
                    · obtain rfl : z = false := HZ.out.symm.trans (rg_no_turn HU'.out HV'.out hlj (by rw [← HL.out, HM.out, HWn.out]; exact h1))
                      go_wp2
                      go_region_held3 (fun w' => (w'.cell? ⟨b, off + j * 4, none⟩ = some (.int .i64 u.1) ∧ w'.cell? ⟨b, off + j * 4 + 1, none⟩ = some (.int .i64 u.2.1) ∧ w'.cell? ⟨b, off + j * 4 + 2, none⟩ = some (.int .i64 u.2.2.1) ∧ w'.cell? ⟨b, off + j * 4 + 3, none⟩ = some (.int .i64 u.2.2.2)) ∧ (w'.cell? ⟨b, off + i * 4, none⟩ = some (.int .i64 v.1) ∧ w'.cell? ⟨b, off + i * 4 + 1, none⟩ = some (.int .i64 v.2.1) ∧ w'.cell? ⟨b, off + i * 4 + 2, none⟩ = some (.int .i64 v.2.2.1) ∧ w'.cell? ⟨b, off + i * 4 + 3, none⟩ = some (.int .i64 v.2.2.2))) (first | exact ⟨⟨k0, k1, k2, k3⟩, ⟨k4, k5, k6, k7⟩⟩ | exact hQ) (first
                        | (go_at_call 113; refine (sHowS_is v u _ _ hm).mono ?_; rintro e w9 ⟨rfl, hb9⟩; have HB9 := Lib.hid (HB.out.drew.trans (hb9.mono HB.out.size)); have HO9 := Lib.hid ((HO.out.drew).belowAll hb9); have hQ := And.intro (cells4 (HO9.out.sees elSegment) HU.out) (cells4 (HO9.out.sees elSegment) HV.out)) | fail)
                      all_goals
                        go_wp2
                        go_ret
                        exact ⟨rfl, HB9.out⟩
                  · have hi1 : ((i : Int) + 1 == (L.length : Int)) = false := by simp; omega
                    have hi2 : ¬ ((i : Int) + 1 = (L.length : Int)) := by omega
                    have HWn : Hid (wantC true L.length j i = 0) := Lib.hid (if_neg (by simp; omega))
                    by_cases h1 : m = 0
                    · subst h1
                      go_wp2
                      go_region_held3 (fun w' => (w'.cell? ⟨b, off + j * 4, none⟩ = some (.int .i64 u.1) ∧ w'.cell? ⟨b, off + j * 4 + 1, none⟩ = some (.int .i64 u.2.1) ∧ w'.cell? ⟨b, off + j * 4 + 2, none⟩ = some (.int .i64 u.2.2.1) ∧ w'.cell? ⟨b, off + j * 4 + 3, none⟩ = some (.int .i64 u.2.2.2)) ∧ (w'.cell? ⟨b, off + i * 4, none⟩ = some (.int .i64 v.1) ∧ w'.cell? ⟨b, off + i * 4 + 1, none⟩ = some (.int .i64 v.2.1) ∧ w'.cell? ⟨b, off + i * 4 + 2, none⟩ = some (.int .i64 v.2.2.1) ∧ w'.cell? ⟨b, off + i * 4 + 3, none⟩ = some (.int .i64 v.2.2.2))) (first | exact ⟨⟨k0, k1, k2, k3⟩, ⟨k4, k5, k6, k7⟩⟩ | exact hQ) (first
                        | (go_at_call 113; refine (sHowS_is v u _ _ hm).mono ?_; rintro e w9 ⟨rfl, hb9⟩; have HB9 := Lib.hid (HB.out.drew.trans (hb9.mono HB.out.size)); have HO9 := Lib.hid ((HO.out.drew).belowAll hb9); have hQ := And.intro (cells4 (HO9.out.sees elSegment) HU.out) (cells4 (HO9.out.sees elSegment) HV.out)) | fail)
                      all_goals
                        go_wp2
                        go_roundw
                        case rel => exact ⟨j + 1, by omega, by go_num, Lib.hid (upto_step hq.out (pr_ok HU.out HV.out (HM.out.trans HWn.out.symm))), HO9, HB9⟩
                        case measure => simp [intOf]; omega
                    · obtain rfl : z = false := HZ.out.symm.trans (rg_no_turn HU'.out HV'.out hlj (by rw [← HL.out, HM.out, HWn.out]; exact h1))
                      go_wp2
                      go_region_held3 (fun w' => (w'.cell? ⟨b, off + j * 4, none⟩ = some (.int .i64 u.1) ∧ w'.cell? ⟨b, off + j * 4 + 1, none⟩ = some (.int .i64 u.2.1) ∧ w'.cell? ⟨b, off + j * 4 + 2, none⟩ = some (.int .i64 u.2.2.1) ∧ w'.cell? ⟨b, off + j * 4 + 3, none⟩ = some (.int .i64 u.2.2.2)) ∧ (w'.cell? ⟨b, off + i * 4, none⟩ = some (.int .i64 v.1) ∧ w'.cell? ⟨b, off + i * 4 + 1, none⟩ = some (.int .i64 v.2.1) ∧ w'.cell? ⟨b, off + i * 4 + 2, none⟩ = some (.int .i64 v.2.2.1) ∧ w'.cell? ⟨b, off + i * 4 + 3, none⟩ = some (.int .i64 v.2.2.2))) (first | exact ⟨⟨k0, k1, k2, k3⟩, ⟨k4, k5, k6, k7⟩⟩ | exact hQ) (first
                        | (go_at_call 113; refine (sHowS_is v u _ _ hm).mono ?_; rintro e w9 ⟨rfl, hb9⟩; have HB9 := Lib.hid (HB.out.drew.trans (hb9.mono HB.out.size)); have HO9 := Lib.hid ((HO.out.drew).belowAll hb9); have hQ := And.intro (cells4 (HO9.out.sees elSegment) HU.out) (cells4 (HO9.out.sees elSegment) HV.out)) | fail)
                      all_goals
                        go_wp2
                        go_ret
                        exact ⟨rfl, HB9.out⟩
                · have hj1 : ((j : Int) == 0) = false := by simp; omega
                  have hj2 : ¬ ((j : Int) = 0) := by omega
                  have HWn : Hid (wantC true L.length j i = 0) := Lib.hid (if_neg (by simp; omega))
                  by_cases h1 : m = 0
                  · subst h1
                    go_wp2
                    go_region_held3 (fun w' => (w'.cell? ⟨b, off + j * 4, none⟩ = some (.int .i64 u.1) ∧ w'.cell? ⟨b, off + j * 4 + 1, none⟩ = some (.int .i64 u.2.1) ∧ w'.cell? ⟨b, off + j * 4 + 2, none⟩ = some (.int .i64 u.2.2.1) ∧ w'.cell? ⟨b, off + j * 4 + 3, none⟩ = some (.int .i64 u.2.2.2)) ∧ (w'.cell? ⟨b, off + i * 4, none⟩ = some (.int .i64 v.1) ∧ w'.cell? ⟨b, off + i * 4 + 1, none⟩ = some (.int .i64 v.2.1) ∧ w'.cell? ⟨b, off + i * 4 + 2, none⟩ = some (.int .i64 v.2.2.1) ∧ w'.cell? ⟨b, off + i * 4 + 3, none⟩ = some (.int .i64 v.2.2.2))) (first | exact ⟨⟨k0, k1, k2, k3⟩, ⟨k4, k5, k6, k7⟩⟩ | exact hQ) (first
                      | (go_at_call 113; refine (sHowS_is v u _ _ hm).mono ?_; rintro e w9 ⟨rfl, hb9⟩; have HB9 := Lib.hid (HB.out.drew.trans (hb9.mono HB.out.size)); have HO9 := Lib.hid ((HO.out.drew).belowAll hb9); have hQ := And.intro (cells4 (HO9.out.sees elSegment) HU.out) (cells4 (HO9.out.sees elSegment) HV.out)) | fail)
                    all_goals
                      go_wp2
                      go_roundw
                      case rel => exact ⟨j + 1, by omega, by go_num, Lib.hid (upto_step hq.out (pr_ok HU.out HV.out (HM.out.trans HWn.out.symm))), HO9, HB9⟩
                      case measure => simp [intOf]; omega
                  · obtain rfl : z = false := HZ.out.symm.trans (rg_no_turn HU'.out HV'.out hlj (by rw [← HL.out, HM.out, HWn.out]; exact h1))
                    go_wp2
                    go_region_held3 (fun w' => (w'.cell? ⟨b, off + j * 4, none⟩ = some (.int .i64 u.1) ∧ w'.cell? ⟨b, off + j * 4 + 1, none⟩ = some (.int .i64 u.2.1) ∧ w'.cell? ⟨b, off + j * 4 + 2, none⟩ = some (.int .i64 u.2.2.1) ∧ w'.cell? ⟨b, off + j * 4 + 3, none⟩ = some (.int .i64 u.2.2.2)) ∧ (w'.cell? ⟨b, off + i * 4, none⟩ = some (.int .i64 v.1) ∧ w'.cell? ⟨b, off + i * 4 + 1, none⟩ = some (.int .i64 v.2.1) ∧ w'.cell? ⟨b, off + i * 4 + 2, none⟩ = some (.int .i64 v.2.2.1) ∧ w'.cell? ⟨b, off + i * 4 + 3, none⟩ = some (.int .i64 v.2.2.2))) (first | exact ⟨⟨k0, k1, k2, k3⟩, ⟨k4, k5, k6, k7⟩⟩ | exact hQ) (first
                      | (go_at_call 113; refine (sHowS_is v u _ _ hm).mono ?_; rintro e w9 ⟨rfl, hb9⟩; have HB9 := Lib.hid (HB.out.drew.trans (hb9.mono HB.out.size)); have HO9 := Lib.hid ((HO.out.drew).belowAll hb9); have hQ := And.intro (cells4 (HO9.out.sees elSegment) HU.out) (cells4 (HO9.out.sees elSegment) HV.out)) | fail)
                    all_goals
                      go_wp2
                      go_ret
                      exact ⟨rfl, HB9.out⟩
            · obtain rfl : j = i := by omega
              go_wp2
              go_roundw
              case rel => exact ⟨j + 1, by omega, by go_num, Lib.hid (upto_step hp.out hq.out), HO, HB⟩
              case measure => simp [intOf]; omega
      · obtain rfl : i = L.length := by omega
        obtain rfl : z = true := HTV.out.symm.trans (turn_yes hp.out)
        go_wp2
        go_ret
        exact ⟨rfl, HB.out⟩
end Go.Proofs.YtbnjaaegbmhopaaGreatDoor
end
section
/- Features: IsFeature of the model. -/
namespace Go.Proofs.YtbnjaaegbmhopaaGreatDoor
open Go.ChangeShapes Go.WideShapes Go.ChangeAt Go.RowKit
set_option linter.unusedVariables false

theorem feat_1 {a k r : Int} {s : ByteArray} {ps : List (Int × Int)} (h : inB a 1 99 = false) : featV (a, k, r, s, ps) = false := by simp [featV, h]
theorem feat_2 {a k r : Int} {s : ByteArray} {ps : List (Int × Int)} (h : inB r 0 9 = false) : featV (a, k, r, s, ps) = false := by simp [featV, h]
theorem feat_3 {a k r : Int} {s : ByteArray} {ps : List (Int × Int)} (h : ¬ s.size = 0) (h' : nameV s = false) : featV (a, k, r, s, ps) = false := by simp only [featV, h', decide_eq_false h, Bool.false_or, Bool.false_and, Bool.and_false]
theorem feat_4 {a k r : Int} {s : ByteArray} {ps : List (Int × Int)} (h1 : inB a 1 99 = true) (h2 : inB r 0 9 = true) (h3 : s.size = 0 ∨ nameV s = true) : featV (a, k, r, s, ps) = shapeV k ps := by
  have : (decide (s.size = 0) || nameV s) = true := by rcases h3 with h | h <;> simp [h]
  simp only [featV, h1, h2, this, Bool.true_and]
theorem shape_1 (ps : List (Int × Int)) : shapeV 1 ps = onePt ps := rfl
theorem shape_2 (ps : List (Int × Int)) : shapeV 2 ps = smpV ps := rfl
theorem shape_3 (ps : List (Int × Int)) : shapeV 3 ps = isRg ps := rfl
theorem shape_0 {k : Int} (ps : List (Int × Int)) (h1 : ¬ k = 1) (h2 : ¬ k = 2) (h3 : ¬ k = 3) : shapeV k ps = false := by simp [shapeV, h1, h2, h3]
theorem one_no {ps : List (Int × Int)} (h : ¬ ps.length = 1) : onePt ps = false := by
  match ps, h with
  | [], _ => rfl
  | [p], h => simp at h
  | _ :: _ :: _, _ => rfl
theorem empty_iff (s : ByteArray) : (s = ⟨#[]⟩) ↔ s.size = 0 := by
  constructor
  · rintro rfl; rfl
  · intro h
    obtain ⟨d⟩ := s
    have : d = #[] := Array.eq_empty_of_size_eq_zero h
    rw [this]
theorem empty_is (s : ByteArray) {z : Bool} (h : decide (s.size = 0) = z) : s.toList.isEmpty = z := by
  have hl : s.data.toList.length = s.size := Array.length_toList
  rw [← h, ByteArray.toList_eq, ← hl]
  cases s.data.toList <;> simp
set_option maxRecDepth 100000 in
set_option maxHeartbeats 2000000 in
theorem sIsFeature_is (a k r : Int) (s : ByteArray) (A : Option Addr) (c : Nat) (ps : List (Int × Int)) (z : Bool) (w : World) (hs : SeesE 2 encPoint w w.heap.size A ps) (hl : ps.length ≤ 274877906944) (hm : s.size ≤ maxLen) (hz : featV (a, k, r, s, ps) = z) :
    Calls Tryz.prog 62 #[FtV a k r s A ps.length c] w fun e w' => e = .returned (.bool z) ∧ Below w.heap.size w w' := by
  have HV := Lib.hid (Vars.of1 w (FtC a k r s A ps.length c) 41)
  have HS := Lib.hid hs
  have HZ := Lib.hid hz
  have HM := Lib.hid hm
  clear hs hz hm
  go_enter Tryz.func62, Tryz.ntmps62
  cases h1 : inB a 1 99
  · obtain rfl : false = z := (feat_1 h1).symm.trans HZ.out
    go_wp2_with fail
    refine (l1in_is _ _ _ false _ h1).mono ?_
    rintro e w1 ⟨rfl, rfl⟩
    go_wp2
    go_ret
    exact ⟨rfl, HV.out.1⟩
  cases h2 : inB r 0 9
  · obtain rfl : false = z := (feat_2 h2).symm.trans HZ.out
    go_wp2_with fail
    refine (l1in_is _ _ _ true _ h1).mono ?_
    rintro e w1 ⟨rfl, rfl⟩
    go_wp2_with fail
    refine (l1in_is _ _ _ false _ h2).mono ?_
    rintro e w1 ⟨rfl, rfl⟩
    go_wp2
    go_ret
    exact ⟨rfl, HV.out.1⟩
  obtain ⟨n, hn⟩ : ∃ n, nameV s = n := ⟨_, rfl⟩
  obtain ⟨m, hm⟩ : ∃ m, decide (s.size = 0) = m := ⟨_, rfl⟩
  have he := empty_is s hm
  by_cases hbad : m = false ∧ n = false
  · obtain ⟨rfl, rfl⟩ := hbad
    obtain rfl : false = z := (feat_3 (of_decide_eq_false hm) hn).symm.trans HZ.out
    clear hm
    go_wp2_with fail
    refine (l1in_is _ _ _ true _ h1).mono ?_
    rintro e w1 ⟨rfl, rfl⟩
    go_wp2_with fail
    refine (l1in_is _ _ _ true _ h2).mono ?_
    rintro e w1 ⟨rfl, rfl⟩
    go_wp2_with fail
    refine (sIsName_is s false _ HM.out hn).mono ?_
    rintro e w1 ⟨rfl, rfl⟩
    go_wp2
    go_ret
    exact ⟨rfl, HV.out.1⟩
  have HX : Hid (shapeV k ps = z) := Lib.hid (by
    rw [← feat_4 (s := s) h1 h2 ?_]; exact HZ.out
    cases m
    · cases n
      · exact absurd ⟨rfl, rfl⟩ hbad
      · exact .inr hn
    · exact .inl (of_decide_eq_true hm))
  go_upto_region 1 with fail
  go_cut [23] (fun s23 wx => s23 = .bool false ∧ Hid (Vars w wx [FtC a k r s A ps.length c]))
  case first =>
    cases m
    · cases n
      · exact absurd ⟨rfl, rfl⟩ hbad
      · clear hm hbad
        go_wp2_with fail
        refine (l1in_is _ _ _ true _ h1).mono ?_
        rintro e w1 ⟨rfl, rfl⟩
        go_wp2_with fail
        refine (l1in_is _ _ _ true _ h2).mono ?_
        rintro e w1 ⟨rfl, rfl⟩
        go_wp2_with fail
        refine (sIsName_is s true _ HM.out hn).mono ?_
        rintro e w1 ⟨rfl, rfl⟩
        go_wp2
        go_meet
        exact ⟨rfl, HV⟩
    · clear hm hbad
      go_wp2_with fail
      refine (l1in_is _ _ _ true _ h1).mono ?_
      rintro e w1 ⟨rfl, rfl⟩
      go_wp2_with fail
      refine (l1in_is _ _ _ true _ h2).mono ?_
      rintro e w1 ⟨rfl, rfl⟩
      go_wp2
      go_meet
      exact ⟨rfl, HV⟩
  case rest =>
  obtain ⟨rfl, HVc⟩ := hcut
  clear HV HZ h1 h2 hn hm he hbad
  have HSc := Lib.hid ((HS.out.below HVc.out.1).mono (Nat.le_trans (Nat.le_succ _) HVc.out.more1))
  obtain ⟨k0, k1, k2, k3, k4⟩ := HVc.out.c50
  by_cases e1 : k = 1
  · subst e1
    rw [shape_1] at HX
    by_cases hl1 : ps.length = 1
    · obtain ⟨⟨x, y⟩, rfl⟩ : ∃ p, ps = [p] := by
        match ps, hl1 with
        | [p], _ => exact ⟨p, rfl⟩
      obtain ⟨b, off, rfl, -, -⟩ := HSc.out 0 _ rfl
      obtain ⟨q0, q1⟩ := cellsPoint0 HSc.out rfl
      clear hl1
      go_wp2_with fail
      refine (sIsPoint_is x y z _ HX.out).mono ?_
      rintro e w1 ⟨rfl, hb1⟩
      have HV1 := Lib.hid (HVc.out.next hb1)
      clear hb1
      go_wp2
      go_ret
      exact ⟨rfl, HV1.out.1⟩
    · have hl1' : ¬ (ps.length : Int) = 1 := by omega
      obtain rfl : false = z := (one_no hl1).symm.trans HX.out
      clear hl1
      go_wp2
      go_ret
      exact ⟨rfl, HVc.out.1⟩
  by_cases e2 : k = 2
  · subst e2
    rw [shape_2] at HX
    go_wp2_with fail
    refine (sIsSimple_is A c ps _ HSc.out (by omega) z HX.out).mono ?_
    rintro e w1 ⟨rfl, hb1⟩
    have HV1 := Lib.hid (HVc.out.next hb1)
    clear hb1
    go_wp2
    go_ret
    exact ⟨rfl, HV1.out.1⟩
  by_cases e3 : k = 3
  · subst e3
    rw [shape_3] at HX
    go_wp2_with fail
    refine (sIsRing_is A c ps _ HSc.out hl z HX.out).mono ?_
    rintro e w1 ⟨rfl, hb1⟩
    have HV1 := Lib.hid (HVc.out.next hb1)
    clear hb1
    go_wp2
    go_ret
    exact ⟨rfl, HV1.out.1⟩
  obtain rfl : false = z := (shape_0 ps e1 e2 e3).symm.trans HX.out
  go_wp2
  go_ret
  exact ⟨rfl, HVc.out.1⟩
end Go.Proofs.YtbnjaaegbmhopaaGreatDoor
end
section
/- Features: IsSource of the model. -/
namespace Go.Proofs.YtbnjaaegbmhopaaGreatDoor
open Go.ChangeShapes Go.WideShapes Go.ChangeAt Go.RowKit
set_option linter.unusedVariables false

def isSrcT : List (Nat × Nat × Nat) := [(0, 11, 1), (0, 12, 8), (3, 13, 3072), (4, 14, 4096), (8, 15, 8192), (16, 16, 16384), (48, 17, 32768), (64, 18, 65544), (192, 19, 196608), (320, 20, 327680), (512, 21, 524289), (512, 22, 524296), (2560, 23, 2621440), (5632, 24, 5767168), (8704, 25, 8912896), (16896, 26, 17301504), (512, 27, 524289), (512, 28, 524296), (197120, 29, 201850880), (262656, 30, 268959744), (524800, 31, 537395200), (1081856, 32, 1107820544), (2097728, 33, 2148073472), (4194368, 34, 4295032832)]
def isSrcS : List (Nat × Bool) := [(0, true), (1, true), (2, true), (3, true), (4, false), (5, true), (6, true), (7, true), (8, true), (9, true), (10, true), (11, true), (12, true), (13, true), (14, true), (15, true), (16, true), (17, true), (18, true), (19, true), (20, true), (21, true), (22, true), (23, true)]
set_option maxRecDepth 100000 in
set_option maxHeartbeats 40000000 in
theorem sIsSource_is (A : Option Addr) (c : Nat) (l : List Feat) (w : World) (hs : SeesF w w.heap.size A l) (hl : l.length ≤ 1099511627776) (hp : SmallF l) (z : Bool) (hz : srcV l = z) :
    Calls Tryz.prog 70 #[.slice A l.length c] w fun e w' => e = .returned (.bool z) ∧ Below w.heap.size w w' := by
  have HS := Lib.hid hs; clear hs
  have HZ := Lib.hid hz; clear hz
  have HPs := Lib.hid hp; clear hp
  go_enter Tryz.func70, Tryz.ntmps70
  go_wp2
  go_loopw [3] (fun i wr => ∃ j : Nat, j ≤ l.length ∧ i = .int .i64 j ∧ Hid (SeenUp l j) ∧ Hid (Below w.heap.size w wr)) (fun i _ => l.length - (intOf i).toNat)
  case atStart => exact ⟨0, Nat.zero_le _, rfl, Lib.hid (seen_zero l), Lib.hid (Below.refl _ _)⟩
  case round =>
    obtain ⟨j, hj, rfl, HU, hb⟩ := hrel
    by_cases hlt : j < l.length
    · obtain ⟨⟨a, kd, rk, s, ps⟩, hf⟩ : ∃ f, l[j]? = some f := ⟨_, List.getElem?_eq_getElem hlt⟩
      obtain ⟨b, off, A', c', rfl, hbl, hss, hcap, hcell⟩ := HS.out.at_ hf
      have HSS := Lib.hid hss
      obtain ⟨hpl, hsz⟩ := HPs.out j _ hf
      dsimp only at hpl hsz
      have hji : (j : Int) < (l.length : Int) := by omega
      have HB := Lib.hid hb.out.drew
      have HC := Lib.hid hcell
      have HF := Lib.hid hf
      clear hss hcap hcell hf
      cases hq : featV (a, kd, rk, s, ps)
      · obtain rfl : false = z := (src_no1 HF.out hq).symm.trans HZ.out
        have HQ : Hid (∀ W, Below w.heap.size w W → (W.cell? ⟨b, off + j * 5, none⟩ = some (.int .i64 a) ∧ W.cell? ⟨b, off + j * 5 + 1, none⟩ = some (.int .i64 kd) ∧ W.cell? ⟨b, off + j * 5 + 2, none⟩ = some (.int .i64 rk) ∧ W.cell? ⟨b, off + j * 5 + 3, none⟩ = some (.string s) ∧ W.cell? ⟨b, off + j * 5 + 4, none⟩ = some (.slice A' ps.length c'))) := Lib.hid fun W hW => by
          obtain ⟨q0, q1, q2, q3, q4⟩ := HC.out
          exact ⟨(hW.cell (p := ⟨b, off + j * 5, none⟩) hbl).trans q0, (hW.cell (p := ⟨b, off + j * 5 + 1, none⟩) hbl).trans q1, (hW.cell (p := ⟨b, off + j * 5 + 2, none⟩) hbl).trans q2, (hW.cell (p := ⟨b, off + j * 5 + 3, none⟩) hbl).trans q3, (hW.cell (p := ⟨b, off + j * 5 + 4, none⟩) hbl).trans q4⟩
        go_upto_region 4 with fail
        refine wp_region_held_drew (S := (fun w' => (w'.cell? ⟨b, off + j * 5, none⟩ = some (.int .i64 a) ∧ w'.cell? ⟨b, off + j * 5 + 1, none⟩ = some (.int .i64 kd) ∧ w'.cell? ⟨b, off + j * 5 + 2, none⟩ = some (.int .i64 rk) ∧ w'.cell? ⟨b, off + j * 5 + 3, none⟩ = some (.string s) ∧ w'.cell? ⟨b, off + j * 5 + 4, none⟩ = some (.slice A' ps.length c')))) (by kernel_rfl) (HQ.out _ HB.out) (fun hHeld => ?_)
        refine to_lin (T := isSrcT) (n := 24) isSrcS ⟨by kernel_rfl, by kernel_rfl, by kernel_rfl⟩ (by kernel_rfl) (fun hTag => ?_)
        iterate 4 (refine lin_on (v := ?_) rfl (fun _ _ _ h => h) (by rfl) ?_ (by assumption) ?_; rotate_left; (· (intro wq hSw; go_simp; try with_reducible rfl)); try simp only [Act.put, List.setIfInBounds_toArray, List.set_cons_zero, List.set_cons_succ])
        refine lin_call rfl (by rfl) (fun K hK => ?_)
        go_simp
        go_at_call 62
        refine (sIsFeature_is a kd rk s A' c' ps _ _ ((HSS.out.below HB.out).mono HB.out.size) hpl hsz hq).mono ?_
        rintro e w9 ⟨rfl, hb9⟩
        have HB := Lib.hid (HB.out.trans (hb9.mono HB.out.size))
        clear hb9
        go_wp2_with fail
        refine hK.out _ _ ?_ (fun hHeld => ?_)
        · exact HQ.out _ HB.out
        clear hK K
        try simp only [Act.put, List.setIfInBounds_toArray, List.set_cons_zero, List.set_cons_succ]
        iterate 2 (refine lin_on (v := ?_) rfl (fun _ _ _ h => h) (by rfl) ?_ (by assumption) ?_; rotate_left; (· (intro wq hSw; go_simp; try with_reducible rfl)); try simp only [Act.put, List.setIfInBounds_toArray, List.set_cons_zero, List.set_cons_succ])
        iterate 16 (refine lin_off rfl (fun _ _ _ h => h) (by rfl) (by assumption) ?_; try simp only [Act.put, List.setIfInBounds_toArray, List.set_cons_zero, List.set_cons_succ])
        (refine lin_on (v := ?_) rfl (fun _ _ _ h => h) (by rfl) ?_ (by assumption) ?_; rotate_left; (· (intro wq hSw; go_simp; try with_reducible rfl)); try simp only [Act.put, List.setIfInBounds_toArray, List.set_cons_zero, List.set_cons_succ])
        refine lin_done ?_
        go_wp2
        go_ret
        exact ⟨rfl, HB.out⟩
      · cases j with
        | zero =>
          have HNx := Lib.hid (seen_step HU.out HF.out hq (fun g h0 => by omega))
          have HQ : Hid (∀ W, Below w.heap.size w W → (W.cell? ⟨b, off, none⟩ = some (.int .i64 a) ∧ W.cell? ⟨b, off + 1, none⟩ = some (.int .i64 kd) ∧ W.cell? ⟨b, off + 2, none⟩ = some (.int .i64 rk) ∧ W.cell? ⟨b, off + 3, none⟩ = some (.string s) ∧ W.cell? ⟨b, off + 4, none⟩ = some (.slice A' ps.length c'))) := Lib.hid fun W hW => by
            obtain ⟨q0, q1, q2, q3, q4⟩ := HC.out
            rw [Nat.zero_mul, Nat.add_zero] at q0 q1 q2 q3 q4
            exact ⟨(hW.cell (p := ⟨b, off, none⟩) hbl).trans q0, (hW.cell (p := ⟨b, off + 1, none⟩) hbl).trans q1, (hW.cell (p := ⟨b, off + 2, none⟩) hbl).trans q2, (hW.cell (p := ⟨b, off + 3, none⟩) hbl).trans q3, (hW.cell (p := ⟨b, off + 4, none⟩) hbl).trans q4⟩
          go_upto_region 4 with fail
          refine wp_region_held_drew (S := (fun w' => (w'.cell? ⟨b, off, none⟩ = some (.int .i64 a) ∧ w'.cell? ⟨b, off + 1, none⟩ = some (.int .i64 kd) ∧ w'.cell? ⟨b, off + 2, none⟩ = some (.int .i64 rk) ∧ w'.cell? ⟨b, off + 3, none⟩ = some (.string s) ∧ w'.cell? ⟨b, off + 4, none⟩ = some (.slice A' ps.length c')))) (by kernel_rfl) (HQ.out _ HB.out) (fun hHeld => ?_)
          refine to_lin (T := isSrcT) (n := 24) isSrcS ⟨by kernel_rfl, by kernel_rfl, by kernel_rfl⟩ (by kernel_rfl) (fun hTag => ?_)
          iterate 4 (refine lin_on (v := ?_) rfl (fun _ _ _ h => h) (by rfl) ?_ (by assumption) ?_; rotate_left; (· (intro wq hSw; go_simp; try with_reducible rfl)); try simp only [Act.put, List.setIfInBounds_toArray, List.set_cons_zero, List.set_cons_succ])
          refine lin_call rfl (by rfl) (fun K hK => ?_)
          go_simp
          go_at_call 62
          refine (sIsFeature_is a kd rk s A' c' ps _ _ ((HSS.out.below HB.out).mono HB.out.size) hpl hsz hq).mono ?_
          rintro e w9 ⟨rfl, hb9⟩
          have HB := Lib.hid (HB.out.trans (hb9.mono HB.out.size))
          clear hb9
          go_wp2_with fail
          refine hK.out _ _ ?_ (fun hHeld => ?_)
          · exact HQ.out _ HB.out
          clear hK K
          try simp only [Act.put, List.setIfInBounds_toArray, List.set_cons_zero, List.set_cons_succ]
          iterate 5 (refine lin_on (v := ?_) rfl (fun _ _ _ h => h) (by rfl) ?_ (by assumption) ?_; rotate_left; (· (intro wq hSw; go_simp; try with_reducible rfl)); try simp only [Act.put, List.setIfInBounds_toArray, List.set_cons_zero, List.set_cons_succ])
          iterate 12 (refine lin_off rfl (fun _ _ _ h => h) (by rfl) (by assumption) ?_; try simp only [Act.put, List.setIfInBounds_toArray, List.set_cons_zero, List.set_cons_succ])
          iterate 2 (refine lin_on (v := ?_) rfl (fun _ _ _ h => h) (by rfl) ?_ (by assumption) ?_; rotate_left; (· (intro wq hSw; go_simp; try with_reducible rfl)); try simp only [Act.put, List.setIfInBounds_toArray, List.set_cons_zero, List.set_cons_succ])
          refine lin_done ?_
          go_wp2
          go_roundw
          case rel => exact ⟨0 + 1, by omega, by go_num, HNx, HB⟩
          case measure => simp [intOf]; omega
        | succ k =>
          obtain ⟨⟨g0, g1, g2, g3, g4⟩, hg⟩ : ∃ f, l[k]? = some f := ⟨_, List.getElem?_eq_getElem (by omega)⟩
          obtain ⟨b2, off2, -, -, e, hbl2, -, -, hgc, -⟩ := HS.out.at_ hg
          simp only [Option.some.injEq, Addr.mk.injEq, and_true] at e
          obtain ⟨rfl, rfl⟩ := e
          have HG := Lib.hid hg
          have HGC := Lib.hid hgc
          clear hg hgc
          have HQ : Hid (∀ W, Below w.heap.size w W → (W.cell? ⟨b, off + (k + 1) * 5, none⟩ = some (.int .i64 a) ∧ W.cell? ⟨b, off + (k + 1) * 5 + 1, none⟩ = some (.int .i64 kd) ∧ W.cell? ⟨b, off + (k + 1) * 5 + 2, none⟩ = some (.int .i64 rk) ∧ W.cell? ⟨b, off + (k + 1) * 5 + 3, none⟩ = some (.string s) ∧ W.cell? ⟨b, off + (k + 1) * 5 + 4, none⟩ = some (.slice A' ps.length c')) ∧ W.cell? ⟨b, off + k * 5, none⟩ = some (.int .i64 g0)) := Lib.hid fun W hW => by
            obtain ⟨q0, q1, q2, q3, q4⟩ := HC.out
            exact ⟨⟨(hW.cell (p := ⟨b, off + (k + 1) * 5, none⟩) hbl).trans q0, (hW.cell (p := ⟨b, off + (k + 1) * 5 + 1, none⟩) hbl).trans q1, (hW.cell (p := ⟨b, off + (k + 1) * 5 + 2, none⟩) hbl).trans q2, (hW.cell (p := ⟨b, off + (k + 1) * 5 + 3, none⟩) hbl).trans q3, (hW.cell (p := ⟨b, off + (k + 1) * 5 + 4, none⟩) hbl).trans q4⟩, (hW.cell (p := ⟨b, off + k * 5, none⟩) hbl).trans HGC.out⟩
          have e1 : ((k + 1 : Nat) : Int) = (k : Int) + 1 := by omega
          rw [e1] at hji ⊢
          have hw : IntKind.i64.wrap (k : Int) = k := IntWalk.i64_in _ (by omega)
          have hpos : (0 : Int) < (k : Int) + 1 := by omega
          have hnn : (0 : Int) ≤ (k : Int) + 1 := by omega
          have hkl : (k : Int) < (l.length : Int) := by omega
          by_cases hle : a ≤ g0
          · obtain rfl : false = z := (src_no2 (j := k + 1) (by omega) (by rw [Nat.add_sub_cancel]; exact HG.out) HF.out hle).symm.trans HZ.out
            go_upto_region 4 with fail
            refine wp_region_held_drew (S := (fun w' => (w'.cell? ⟨b, off + (k + 1) * 5, none⟩ = some (.int .i64 a) ∧ w'.cell? ⟨b, off + (k + 1) * 5 + 1, none⟩ = some (.int .i64 kd) ∧ w'.cell? ⟨b, off + (k + 1) * 5 + 2, none⟩ = some (.int .i64 rk) ∧ w'.cell? ⟨b, off + (k + 1) * 5 + 3, none⟩ = some (.string s) ∧ w'.cell? ⟨b, off + (k + 1) * 5 + 4, none⟩ = some (.slice A' ps.length c')) ∧ w'.cell? ⟨b, off + k * 5, none⟩ = some (.int .i64 g0))) (by kernel_rfl) (HQ.out _ HB.out) (fun hHeld => ?_)
            refine to_lin (T := isSrcT) (n := 24) isSrcS ⟨by kernel_rfl, by kernel_rfl, by kernel_rfl⟩ (by kernel_rfl) (fun hTag => ?_)
            iterate 4 (refine lin_on (v := ?_) rfl (fun _ _ _ h => h) (by rfl) ?_ (by assumption) ?_; rotate_left; (· (intro wq hSw; go_simp; try with_reducible rfl)); try simp only [Act.put, List.setIfInBounds_toArray, List.set_cons_zero, List.set_cons_succ])
            refine lin_call rfl (by rfl) (fun K hK => ?_)
            go_simp
            go_at_call 62
            refine (sIsFeature_is a kd rk s A' c' ps _ _ ((HSS.out.below HB.out).mono HB.out.size) hpl hsz hq).mono ?_
            rintro e w9 ⟨rfl, hb9⟩
            have HB := Lib.hid (HB.out.trans (hb9.mono HB.out.size))
            clear hb9
            go_wp2_with fail
            refine hK.out _ _ ?_ (fun hHeld => ?_)
            · exact HQ.out _ HB.out
            clear hK K
            try simp only [Act.put, List.setIfInBounds_toArray, List.set_cons_zero, List.set_cons_succ]
            iterate 19 (refine lin_on (v := ?_) rfl (fun _ _ _ h => h) (by rfl) ?_ (by assumption) ?_; rotate_left; (· (intro wq hSw; go_simp; try with_reducible rfl)); try simp only [Act.put, List.setIfInBounds_toArray, List.set_cons_zero, List.set_cons_succ])
            refine lin_done ?_
            go_wp2
            go_ret
            exact ⟨rfl, HB.out⟩
          · have HNx := Lib.hid (seen_step HU.out HF.out hq (fun g h0 hg => by
              rw [Nat.add_sub_cancel] at hg
              obtain rfl : g = (g0, g1, g2, g3, g4) := Option.some.inj (hg.symm.trans HG.out)
              show g0 < a
              omega))
            go_upto_region 4 with fail
            refine wp_region_held_drew (S := (fun w' => (w'.cell? ⟨b, off + (k + 1) * 5, none⟩ = some (.int .i64 a) ∧ w'.cell? ⟨b, off + (k + 1) * 5 + 1, none⟩ = some (.int .i64 kd) ∧ w'.cell? ⟨b, off + (k + 1) * 5 + 2, none⟩ = some (.int .i64 rk) ∧ w'.cell? ⟨b, off + (k + 1) * 5 + 3, none⟩ = some (.string s) ∧ w'.cell? ⟨b, off + (k + 1) * 5 + 4, none⟩ = some (.slice A' ps.length c')) ∧ w'.cell? ⟨b, off + k * 5, none⟩ = some (.int .i64 g0))) (by kernel_rfl) (HQ.out _ HB.out) (fun hHeld => ?_)
            refine to_lin (T := isSrcT) (n := 24) isSrcS ⟨by kernel_rfl, by kernel_rfl, by kernel_rfl⟩ (by kernel_rfl) (fun hTag => ?_)
            iterate 4 (refine lin_on (v := ?_) rfl (fun _ _ _ h => h) (by rfl) ?_ (by assumption) ?_; rotate_left; (· (intro wq hSw; go_simp; try with_reducible rfl)); try simp only [Act.put, List.setIfInBounds_toArray, List.set_cons_zero, List.set_cons_succ])
            refine lin_call rfl (by rfl) (fun K hK => ?_)
            go_simp
            go_at_call 62
            refine (sIsFeature_is a kd rk s A' c' ps _ _ ((HSS.out.below HB.out).mono HB.out.size) hpl hsz hq).mono ?_
            rintro e w9 ⟨rfl, hb9⟩
            have HB := Lib.hid (HB.out.trans (hb9.mono HB.out.size))
            clear hb9
            go_wp2_with fail
            refine hK.out _ _ ?_ (fun hHeld => ?_)
            · exact HQ.out _ HB.out
            clear hK K
            try simp only [Act.put, List.setIfInBounds_toArray, List.set_cons_zero, List.set_cons_succ]
            iterate 19 (refine lin_on (v := ?_) rfl (fun _ _ _ h => h) (by rfl) ?_ (by assumption) ?_; rotate_left; (· (intro wq hSw; go_simp; try with_reducible rfl)); try simp only [Act.put, List.setIfInBounds_toArray, List.set_cons_zero, List.set_cons_succ])
            refine lin_done ?_
            go_wp2
            go_roundw
            case rel => exact ⟨(k + 1) + 1, by omega, by go_num, HNx, HB⟩
            case measure => simp [intOf]; omega
    · obtain rfl : j = l.length := by omega
      have HE := Lib.hid ((seen_all HU.out).symm.trans HZ.out)
      by_cases h16 : l.length ≤ 16
      · have h16' : (l.length : Int) ≤ 16 := by omega
        obtain rfl : true = z := by rw [← HE.out, decide_eq_true h16]
        clear h16
        go_wp2
        go_ret
        exact ⟨rfl, hb.out⟩
      · have h16' : ¬ (l.length : Int) ≤ 16 := by omega
        obtain rfl : false = z := by rw [← HE.out, decide_eq_false h16]
        clear h16
        go_wp2
        go_ret
        exact ⟨rfl, hb.out⟩
end Go.Proofs.YtbnjaaegbmhopaaGreatDoor
end
section
/- Features: TakeFeature of the model. -/
namespace Go.Proofs.YtbnjaaegbmhopaaGreatDoor
open Go.ChangeShapes Go.WideShapes Go.ChangeAt Go.RowKit
set_option linter.unusedVariables false

section
variable {w : World} {B : Nat} {A : Option Addr} {l : List Feat}
theorem SeesF.suf (h : SeesF w B A l) (j : Nat) (A' : Option Addr) (hA : j < l.length → A' = A.map (·.add (j * 5))) : SeesF w B A' (l.drop j) := by
  have := h.cut j l.length A' hA
  rwa [List.take_of_length_le (by rw [List.length_drop]; omega)] at this
theorem SeesF.pre (h : SeesF w B A l) (j : Nat) : SeesF w B A (l.take j) := by
  obtain ⟨xs, h1, h2, h3⟩ := h
  refine ⟨xs.take j, by rw [List.length_take, List.length_take, h1], fun i x hi => ?_, fun i x f hx hf => ?_⟩
  · rw [List.getElem?_take] at hi
    split at hi
    · exact h2 i x hi
    · cases hi
  · rw [List.getElem?_take] at hx hf
    split at hx
    · next hlt => rw [if_pos hlt] at hf; exact h3 i x f hx hf
    · cases hx
theorem SeesF.drew (h : SeesF w B A l) : SeesF w.drew B A l := h.below (Below.refl _ _).drew
end
/-- A call gives features of its own, and a bool. -/
def GivesP (r : List Feat × Bool) (w : World) (e : Ending) (w' : World) : Prop :=
  ∃ A L c, Hid (L = r.1) ∧ e = .returned (.tuple #[.slice A L.length c, .bool r.2]) ∧ OwnF w' w.heap.size (.slice A L.length c) L ∧ Below w.heap.size w w'
theorem take_no1 {l : List Feat} {i : Int} (h : srcV l = false) : takeV l i = (l, false) := by unfold takeV; rw [if_neg (by rw [h]; simp)]
theorem take_no2 {l : List Feat} {i : Int} (h : findV l i < 0) : takeV l i = (l, false) := by unfold takeV; rw [if_neg (by omega)]
theorem take_yes {l : List Feat} {i : Int} {j : Nat} (h : srcV l = true) (h' : findV l i = (j : Int)) : takeV l i = (l.take j ++ l.drop (j + 1), true) := by
  unfold takeV; rw [h', if_pos ⟨h, by omega⟩, Int.toNat_natCast]
theorem sl9Copy_at (n : Nat) (A : Option Addr) (c : Nat) (l : List Feat) (w : World) (e : l.length = n) (hs : SeesF w w.heap.size A l) (hl : n ≤ 1099511627776) (hp : FewP l) :
    Calls Tryz.prog 165 #[.slice A n c] w (GivesF l w) := by
  subst e; exact sl9Copy_any A c l w hs hl hp
end Go.Proofs.YtbnjaaegbmhopaaGreatDoor
end
section
/- Features: PutFeature of the model. -/
namespace Go.Proofs.YtbnjaaegbmhopaaGreatDoor
open Go.ChangeShapes Go.WideShapes Go.ChangeAt Go.RowKit
set_option linter.unusedVariables false

theorem SeesE.drew' {α : Type} {n : Nat} {enc : α → List Value} {w : World} {B : Nat} {A : Option Addr} {l : List α} (h : SeesE n enc w B A l) : SeesE n enc w.drew B A l := h.below (Below.refl _ _).drew
/-- Does the place come ahead of an Id? -/
def cndV (l : List Feat) (a : Int) (j : Nat) : Bool := match l[j]? with
  | some g => decide (g.1 < a)
  | none => false
theorem cnd_some {l : List Feat} {a : Int} {j : Nat} {g : Feat} (h : l[j]? = some g) : cndV l a j = decide (g.1 < a) := by unfold cndV; rw [h]
theorem cnd_none {l : List Feat} {a : Int} {j : Nat} (h : l.length ≤ j) : cndV l a j = false := by unfold cndV; rw [List.getElem?_eq_none h]
theorem cnd_yes {l : List Feat} {a : Int} {j : Nat} (h : cndV l a j = true) : ∃ g, l[j]? = some g ∧ g.1 < a := by
  unfold cndV at h
  split at h
  · next g hg => exact ⟨g, hg, of_decide_eq_true h⟩
  · cases h
theorem cnd_no {l : List Feat} {a : Int} {j : Nat} (h : cndV l a j = false) (g : Feat) (hg : l[j]? = some g) : ¬ g.1 < a := by
  rw [cnd_some hg] at h; exact of_decide_eq_false h
theorem put_small {l : List Feat} {a kd rk : Int} {s : ByteArray} {ps : List (Int × Int)} (h : SmallF l) (hp : ps.length ≤ 274877906944) (hs : s.size ≤ maxLen) : SmallF (putOut l (a, kd, rk, s, ps)) := fun j g hg => by
  have hm := List.mem_of_getElem? hg
  unfold putOut at hm
  rw [List.mem_append, List.mem_append, List.mem_singleton] at hm
  rcases hm with (hm | rfl) | hm
  · obtain ⟨q, hq⟩ := List.getElem?_of_mem (List.mem_of_mem_take hm)
    exact h q g hq
  · exact ⟨hp, hs⟩
  · obtain ⟨q, hq⟩ := List.getElem?_of_mem (List.mem_of_mem_drop ((rest_sub l a).subset hm))
    exact h q g hq
theorem rest_nil {l : List Feat} {a : Int} {j : Nat} (hk : cutK l a = j) (h : l.length ≤ j) : restV l a = [] := by
  unfold restV; rw [hk, List.drop_eq_nil_of_le h]
theorem drop_one {l : List Feat} {j : Nat} {g : Feat} (hg : l[j]? = some g) : l.drop j = g :: l.drop (j + 1) := by
  obtain ⟨h1, h2⟩ := List.getElem?_eq_some_iff.1 hg
  rw [List.drop_eq_getElem_cons h1, h2]
theorem rest_same {l : List Feat} {a : Int} {j : Nat} {g : Feat} (hk : cutK l a = j) (hg : l[j]? = some g) (h : g.1 = a) : restV l a = l.drop (j + 1) := by
  unfold restV; rw [hk, drop_one hg]; simp only; rw [if_pos h]
theorem rest_other {l : List Feat} {a : Int} {j : Nat} {g : Feat} (hk : cutK l a = j) (hg : l[j]? = some g) (h : ¬ g.1 = a) : restV l a = l.drop j := by
  unfold restV; rw [hk, drop_one hg]; simp only; rw [if_neg h]
def put2T : List (Nat × Nat × Nat) := [(0, 10, 64), (0, 11, 1), (2, 12, 1024), (5, 13, 2560), (8, 14, 4096), (16, 15, 8193), (16, 16, 8256), (112, 17, 57344), (144, 18, 73728), (272, 19, 139264), (16, 20, 8200), (1040, 21, 532480), (2576, 22, 1318912), (4112, 23, 2105344)]
def put2S : List (Nat × Bool) := [(0, true), (1, true), (2, true), (3, true), (4, true), (5, true), (6, true), (7, true), (8, true), (9, true), (10, true), (11, true), (12, true), (13, true)]
def put5T : List (Nat × Nat × Nat) := [(0, 29, 128), (1, 30, 268435456), (2, 31, 536870912), (4, 32, 1073741824), (8, 33, 2147483776), (24, 34, 6442450944), (40, 35, 10737418240), (72, 36, 19327352832), (8, 37, 2147483656), (264, 38, 70866960384), (648, 39, 173946175488), (1032, 40, 277025390592)]
def put5S : List (Nat × Bool) := [(0, true), (1, true), (2, true), (3, true), (4, true), (5, true), (6, true), (7, true), (8, true), (9, true), (10, true), (11, true)]
set_option maxRecDepth 100000 in
set_option maxHeartbeats 40000000 in
theorem sPut_any (A : Option Addr) (c : Nat) (l : List Feat) (a kd rk : Int) (s : ByteArray) (Af : Option Addr) (cf : Nat) (ps : List (Int × Int)) (w : World) (hs : SeesF w w.heap.size A l) (hsp : SeesE 2 encPoint w w.heap.size Af ps) (hl : l.length ≤ 1048576) (hlc : l.length ≤ c) (hc : (c : Int) ≤ 9223372036854775807) (hp : SmallF l) (hpl : ps.length ≤ 274877906944) (hsz : s.size ≤ maxLen) :
    Calls Tryz.prog 152 #[.slice A l.length c, FtV a kd rk s Af ps.length cf] w (GivesP (putV l (a, kd, rk, s, ps)) w) := by
  have HS := Lib.hid hs
  have HSp := Lib.hid hsp
  have HP := Lib.hid hp
  obtain ⟨n, hn⟩ : ∃ n, l.length = n := ⟨_, rfl⟩
  have HN := Lib.hid hn
  rw [hn] at hl hlc ⊢
  have HV := Lib.hid (Vars.of1 w (FtC a kd rk s Af ps.length cf) 41)
  clear hs hsp hp hn
  go_enter Tryz.func152, Tryz.ntmps152
  go_wp2
  go_loopw [6] (fun kv wr => ∃ j : Nat, j ≤ n ∧ kv = .int .i64 j ∧ Hid (∀ (m : Nat) (g : Feat), m < j → l[m]? = some g → g.1 < a) ∧ Hid (Vars w wr [FtC a kd rk s Af ps.length cf])) (fun kv _ => n - (intOf kv).toNat)
  case atStart => exact ⟨0, Nat.zero_le _, rfl, Lib.hid (fun m g hm => by omega), HV⟩
  case round =>
    obtain ⟨j, hj, rfl, HB, HVr⟩ := hrel
    clear HV
    obtain ⟨z, hz⟩ : ∃ z, cndV l a j = z := ⟨_, rfl⟩
    go_upto_region 2 with fail
    go_cut [22] (fun s22 wx => s22 = .bool z ∧ Hid (Vars w wx [FtC a kd rk s Af ps.length cf]))
    case first =>
      have HVd := Lib.hid HVr.out.drew
      by_cases hlt : j < n
      · obtain ⟨⟨g0, g1, g2, g3, g4⟩, hg⟩ : ∃ g, l[j]? = some g := ⟨_, List.getElem?_eq_getElem (by rw [HN.out]; exact hlt)⟩
        obtain ⟨b, off, -, -, rfl, hbl, -, -, hgc, -⟩ := HS.out.at_ hg
        have hq : wr.drew.cell? ⟨b, off + j * 5, none⟩ = some (.int .i64 g0) := (HVr.out.1.drew.cell (p := ⟨b, off + j * 5, none⟩) hbl).trans hgc
        have hji : (j : Int) < (n : Int) := by omega
        rw [cnd_some hg] at hz
        clear hg hgc
        by_cases hlo : g0 < a
        · obtain rfl : true = z := (decide_eq_true hlo).symm.trans hz
          clear hz
          refine wp_region_held_drew (S := fun w' => w'.cell? ⟨w.heap.size, 0, none⟩ = some (.int .i64 a) ∧ w'.cell? ⟨b, off + j * 5, none⟩ = some (.int .i64 g0)) (by kernel_rfl) ⟨HVd.out.c50.1, hq⟩ (fun hHeld => ?_)
          refine to_lin (T := put2T) (n := 14) put2S ⟨by kernel_rfl, by kernel_rfl, by kernel_rfl⟩ (by kernel_rfl) (fun hTag => ?_)
          iterate 14 (refine lin_on (v := ?_) rfl (fun _ _ _ h => h) (by rfl) ?_ (by assumption) ?_; rotate_left; (· (intro wq hSw; go_simp; try with_reducible rfl)); try simp only [Act.put, List.setIfInBounds_toArray, List.set_cons_zero, List.set_cons_succ])
          refine lin_done ?_
          go_wp2_with fail
          go_meet
          exact ⟨rfl, HVd⟩
        · obtain rfl : false = z := (decide_eq_false hlo).symm.trans hz
          clear hz
          refine wp_region_held_drew (S := fun w' => w'.cell? ⟨w.heap.size, 0, none⟩ = some (.int .i64 a) ∧ w'.cell? ⟨b, off + j * 5, none⟩ = some (.int .i64 g0)) (by kernel_rfl) ⟨HVd.out.c50.1, hq⟩ (fun hHeld => ?_)
          refine to_lin (T := put2T) (n := 14) put2S ⟨by kernel_rfl, by kernel_rfl, by kernel_rfl⟩ (by kernel_rfl) (fun hTag => ?_)
          iterate 14 (refine lin_on (v := ?_) rfl (fun _ _ _ h => h) (by rfl) ?_ (by assumption) ?_; rotate_left; (· (intro wq hSw; go_simp; try with_reducible rfl)); try simp only [Act.put, List.setIfInBounds_toArray, List.set_cons_zero, List.set_cons_succ])
          refine lin_done ?_
          go_wp2_with fail
          go_meet
          exact ⟨rfl, HVd⟩
      · obtain rfl : j = n := by omega
        obtain rfl : false = z := (cnd_none (by rw [HN.out]; exact Nat.le_refl _)).symm.trans hz
        have hji : ¬ (j : Int) < (j : Int) := by omega
        clear hz
        refine wp_region_held_drew (S := fun w' => True) (by kernel_rfl) trivial (fun hHeld => ?_)
        refine to_lin (T := put2T) (n := 14) put2S ⟨by kernel_rfl, by kernel_rfl, by kernel_rfl⟩ (by kernel_rfl) (fun hTag => ?_)
        iterate 5 (refine lin_on (v := ?_) rfl (fun _ _ _ h => h) (by rfl) ?_ (by assumption) ?_; rotate_left; (· (intro wq hSw; go_simp; try with_reducible rfl)); try simp only [Act.put, List.setIfInBounds_toArray, List.set_cons_zero, List.set_cons_succ])
        iterate 8 (refine lin_off rfl (fun _ _ _ h => h) (by rfl) (by assumption) ?_; try simp only [Act.put, List.setIfInBounds_toArray, List.set_cons_zero, List.set_cons_succ])
        (refine lin_on (v := ?_) rfl (fun _ _ _ h => h) (by rfl) ?_ (by assumption) ?_; rotate_left; (· (intro wq hSw; go_simp; try with_reducible rfl)); try simp only [Act.put, List.setIfInBounds_toArray, List.set_cons_zero, List.set_cons_succ])
        refine lin_done ?_
        go_wp2_with fail
        go_meet
        exact ⟨rfl, HVd⟩
    case rest =>
    obtain ⟨rfl, HVq⟩ := hcut
    have HCz := Lib.hid hz
    clear hz HVr
    cases z
    · have HKC : Hid (cutK l a = j) := Lib.hid (cut_at (by rw [HN.out]; exact hj) (fun m g hm hg => HB.out m g hm hg) (fun g hg => cnd_no HCz.out g hg))
      clear HB HCz
      have HVd0 := HVq
      clear HVq
      have HVq := Lib.hid HVd0.out.drew
      have hwB := HVd0.out.1.drew
      by_cases hlt : j < n
      · obtain ⟨⟨g0, g1, g2, g3, g4⟩, hg⟩ : ∃ g, l[j]? = some g := ⟨_, List.getElem?_eq_getElem (by rw [HN.out]; exact hlt)⟩
        obtain ⟨b, off, -, -, rfl, hbl, -, -, hgc, -⟩ := HS.out.at_ hg
        have hq0 : wc.drew.cell? ⟨b, off + j * 5, none⟩ = some (.int .i64 g0) := (hwB.cell (p := ⟨b, off + j * 5, none⟩) hbl).trans hgc
        have HG := Lib.hid hg
        have hcj : ¬ c = j := by omega
        have hjz : (0 : Int) ≤ (j : Int) := by omega
        have hjn : (j : Int) ≤ (n : Int) := by omega
        have hnc : (n : Int) ≤ (c : Int) := by omega
        have hpos : 0 < n - j := by omega
        have hpos' : (0 : Int) < ((n - j : Nat) : Int) := by omega
        clear hg hgc
        have HSj : Hid (SeesF wc.drew wc.drew.heap.size (some ⟨b, off + j * 5, none⟩) (l.drop j)) := Lib.hid (((HS.out.below hwB).mono hwB.size).suf j _ (fun _ => by simp [add_none]))
        by_cases hga : g0 = a
        · have hga' := hga.symm
          subst hga'
          have HRV := Lib.hid (rest_same HKC.out HG.out rfl)
          by_cases hc1 : c - j = 1
          · have hb1 : (1 : Int) ≤ ((n - j : Nat) : Int) := by omega
            have hb2 : ((n - j : Nat) : Int) ≤ ((c - j : Nat) : Int) := by omega
            have hnj : n - j = 1 := by omega
            have hcj1 : (c : Int) - j = 1 := by omega
            have HNr : Hid ((l.drop (j + 1)).length = 0) := Lib.hid (by rw [List.length_drop, HN.out]; omega)
            have HSr : Hid (SeesF wc.drew wc.drew.heap.size (some ⟨b, off + j * 5, none⟩) (l.drop (j + 1))) := Lib.hid (by rw [List.eq_nil_of_length_eq_zero HNr.out]; exact SeesF.nil)
            go_upto_region 5 with fail
            refine wp_region_held_drew (S := fun w' => w'.cell? ⟨w.heap.size, 0, none⟩ = some (.int .i64 a) ∧ w'.cell? ⟨b, off + j * 5, none⟩ = some (.int .i64 a)) (by kernel_rfl) ⟨HVq.out.c50.1, hq0⟩ (fun hHeld => ?_)
            refine to_lin (T := put5T) (n := 12) put5S ⟨by kernel_rfl, by kernel_rfl, by kernel_rfl⟩ (by kernel_rfl) (fun hTag => ?_)
            iterate 12 (refine lin_on (v := ?_) rfl (fun _ _ _ h => h) (by rfl) ?_ (by assumption) ?_; rotate_left; (· (intro wq hSw; go_simp; try with_reducible rfl)); try simp only [Act.put, List.setIfInBounds_toArray, List.set_cons_zero, List.set_cons_succ])
            refine lin_done ?_
            skip
            obtain ⟨k0, k1, k2, k3, k4⟩ := HVq.out.c50
            have HKq := Lib.hid HVq.out.c50
            have HKd := Lib.hid HVq.out.drew.c50
            have hszq := HVq.out.1.size
            have HSa : Hid (SeesF wc.drew.drew wc.drew.drew.heap.size (some ⟨b, off, none⟩) (l.take j)) := Lib.hid (((HS.out.below HVq.out.1.drew).mono hszq).pre j)
            have HSr2 : Hid (SeesF wc.drew.drew wc.drew.drew.heap.size (some ⟨b, off + j * 5, none⟩) (l.drop (j + 1))) := Lib.hid HSr.out.drew
            have HSf : Hid (SeesE 2 encPoint wc.drew wc.drew.heap.size Af ps) := Lib.hid ((HSp.out.below HVq.out.1).mono hszq)
            have HNa : Hid ((l.take j).length = j) := Lib.hid (by rw [List.length_take, HN.out]; omega)
            have hRl : 0 ≤ n := by rw [← HNr.out, ← HRV.out, ← HN.out]; exact Nat.le_trans (rest_sub l a).length_le (by rw [List.length_drop]; omega)
            have HPr : Hid (SmallF (l.drop (j + 1))) := Lib.hid (fun i g hg => by
              have hm := (rest_sub l a).subset (by rw [HRV.out]; exact List.mem_of_getElem? hg)
              obtain ⟨q, hq⟩ := List.getElem?_of_mem (List.mem_of_mem_drop hm)
              exact HP.out q g hq)
            have HlA : Hid (j ≤ 1099511627776) := Lib.hid (by omega)
            have HlR : Hid (0 ≤ 1099511627776) := Lib.hid (by omega)
            have HPa := Lib.hid (HP.out.take j).few
            have HPf := Lib.hid HPr.out.few
            have HPn := Lib.hid HP.out.few
            have HlN : Hid (n ≤ 1099511627776) := Lib.hid (by omega)
            have hj1 : (j : Int) ≤ (c : Int) := by omega
            have hj0 : (0 : Int) ≤ (j : Int) := by omega
            have hpl2 : ps.length ≤ 1099511627776 := by omega
            go_upto_region 7 with fail
            go_region_held3 (fun w' => w'.cell? ⟨w.heap.size, 0, none⟩ = some (.int .i64 a) ∧ w'.cell? ⟨w.heap.size, 1, none⟩ = some (.int .i64 kd) ∧ w'.cell? ⟨w.heap.size, 2, none⟩ = some (.int .i64 rk) ∧ w'.cell? ⟨w.heap.size, 3, none⟩ = some (.string s) ∧ w'.cell? ⟨w.heap.size, 4, none⟩ = some (.slice Af ps.length cf)) (first | with_reducible exact ⟨k0, k1, k2, k3, k4⟩ | with_reducible exact HKd.out | with_reducible exact HK.out | with_reducible exact HKa.out | fail) (first
              | (go_at_call 165; (with_reducible refine (sl9Copy_at _ _ _ _ _ HNr.out HSr4.out HlR.out HPf.out).mono ?_); rintro e w5 ⟨A5, L5, c5, hL5, rfl, ho5, hb5⟩; have HO5 := Lib.hid ho5; have HB5 := Lib.hid hb5; have HV5 := Lib.hid (HV4.out.next hb5); have HK := Lib.hid HV5.out.c50; have HL45 : Hid (L4.length + L5.length ≤ 1099511627776) := Lib.hid (by have e4 := congrArg List.length hL4.out; have e2 := congrArg List.length hL2.out; have e5 := congrArg List.length hL5.out; rw [HNa.out] at e2; rw [HNr.out] at e5; simp only [List.length_append, List.length_singleton] at e4; omega))
              | (go_at_call 166; refine (sl9Feature_any a kd rk s Af cf ps _ HSf2.out hpl2).mono ?_; rintro e w3 ⟨A3, P, c3, hP, rfl, ho3, hb3⟩; have HPP := hP; have HO3 := Lib.hid ho3; have HB3 := Lib.hid hb3; have HV3 := Lib.hid (HV2.out.next hb3); have HK := Lib.hid HV3.out.c50; have HKa := Lib.hid (HV3.out.al (.cells (FtC a kd rk s A3 P.length c3) 41)).c50; have HSr3 := Lib.hid (HSr2b.out.belowAll hb3); have hl21 : Hid (L2.length + 1 ≤ 1099511627776) := Lib.hid (by have e2 := congrArg List.length hL2.out; rw [HNa.out] at e2; omega))
              | (go_at_call 165; (with_reducible refine (sl9Copy_at _ _ _ _ _ HNa.out HSa.out HlA.out HPa.out).mono ?_); rintro e w2 ⟨A2, L2, c2, hL2, rfl, ho2, hb2⟩; have HO2 := Lib.hid ho2; have HB2 := Lib.hid hb2; have HV2 := Lib.hid (HVq.out.drew.next hb2); have HK := Lib.hid HV2.out.c50; have HSf2 := Lib.hid ((HSf.out.drew.below hb2).mono hb2.size); have HSr2b := Lib.hid (HSr2.out.belowAll hb2))
              | (refine stepF2 w5 _ _ (by rfl) (by rfl) HO4.out HB5.out _ _ _ HO5.out (by rfl) HL45.out HB4.out.size ?_; intro A6 c6 L6 w6 hL6 h1 h2 ho6 hb6; have HO6 := Lib.hid ho6; have HB6 := Lib.hid hb6; have HV6 := Lib.hid (HV5.out.keepB hb6 (by show w.heap.size + 1 ≤ wc.drew.heap.size; exact HVq.out.more1)); have HK := Lib.hid HV6.out.c50)
              | (refine stepF1 w3 _ _ (by rfl) (by rfl) HO2.out HB3.out HO3.out (by rfl) hl21.out HB2.out.size ?_; intro A4 c4 L4 w4 hL4 h1 h2 ho4 hb4; have HO4 := Lib.hid ho4; have HB4 := Lib.hid (((HB2.out.trans (HB3.out.mono HB2.out.size)).alloc (Nat.le_trans HB2.out.size HB3.out.size) _).trans hb4); have HV4 := Lib.hid ((HV3.out.al (.cells (FtC a kd rk s A3 P.length c3) 41)).keepB hb4 (by show w.heap.size + 1 ≤ wc.drew.heap.size; exact HVq.out.more1)); have HK := Lib.hid HV4.out.c50; have HSr4 : Hid (SeesF w4 w4.heap.size (some ⟨b, off + j * 5, none⟩) (l.drop (j + 1))) := Lib.hid ((HSr2.out.below HB4.out).mono HB4.out.size))
              | fail)
            all_goals
              have HE : Hid (L6 = putOut l (a, kd, rk, s, ps)) := Lib.hid (by rw [hL6.out, hL4.out, hL2.out, hL5.out, HPP.out]; show _ = l.take (cutK l a) ++ [(a, kd, rk, s, ps)] ++ restV l a; rw [HKC.out, HRV.out])
              have h6 : L6.length ≤ 2100000 := by
                have e6 := congrArg List.length hL6.out; have e4 := congrArg List.length hL4.out; have e2 := congrArg List.length hL2.out; have e5 := congrArg List.length hL5.out
                rw [HNa.out] at e2; rw [HNr.out] at e5
                simp only [List.length_append, List.length_singleton] at e4 e6
                omega
              have HB7 := Lib.hid (HV6.out.1)
              have HS7 := Lib.hid ((HS.out.below HV6.out.1).mono HV6.out.1.size)
              have HO7 := Lib.hid (HO6.out.mono (show w.heap.size ≤ wc.drew.drew.heap.size from hszq))
              have HSm : Hid (SmallF L6) := Lib.hid (by rw [HE.out]; exact put_small HP.out hpl hsz)
              clear HK HKa HV6 HV5 HV4 HV3 HV2 HO2 HO3 HO4 HO5 HB2 HB3 HB4 HB5 HB6 h1 h2 ho6 hb6
              go_wp2_with fail
              obtain ⟨z, hz⟩ : ∃ z, srcV L6 = z := ⟨_, rfl⟩
              have hl6 : L6.length ≤ 1099511627776 := by omega
              (with_reducible refine (sIsSource_is A6 c6 L6 _ HO7.out.sees hl6 HSm.out z hz).mono ?_)
              rintro e w8 ⟨rfl, hb8⟩
              have HO8 := Lib.hid (HO7.out.belowAll hb8)
              have HB8 := Lib.hid (HB7.out.trans (hb8.mono HB7.out.size))
              have HS8 := Lib.hid (HS7.out.belowAll hb8)
              rw [HE.out] at hz
              have HZ := Lib.hid hz
              clear hb8 hz HO7 HB7 HS7
              cases z
              · have HT := Lib.hid (put_no HZ.out)
                go_wp2_with fail
                (with_reducible refine (sl9Copy_at _ _ _ _ _ HN.out HS8.out HlN.out HPn.out).mono ?_)
                rintro e w9 ⟨A9, L9, c9, hL9, rfl, ho9, hb9⟩
                have HO9 := Lib.hid ho9
                have HB9 := Lib.hid (HB8.out.trans (hb9.mono HB8.out.size))
                have hsz8 := HB8.out.size
                clear ho9 hb9
                go_wp2
                go_ret2
                exact ⟨A9, L9, c9, Lib.hid (by rw [hL9.out, HT.out]), by rw [HT.out]; rfl, HO9.out.mono hsz8, HB9.out⟩
              · have HT := Lib.hid (put_yes HZ.out)
                go_wp2
                go_ret2
                exact ⟨A6, L6, c6, Lib.hid (by rw [HE.out, HT.out]), by rw [HT.out]; rfl, HO8.out, HB8.out⟩
          · have hb1 : (1 : Int) ≤ ((n - j : Nat) : Int) := by omega
            have hb2 : ((n - j : Nat) : Int) ≤ ((c - j : Nat) : Int) := by omega
            have HNr : Hid ((l.drop (j + 1)).length = n - j - 1) := Lib.hid (by rw [List.length_drop, HN.out]; omega)
            have HSr : Hid (SeesF wc.drew wc.drew.heap.size (some ⟨b, off + j * 5 + 5, none⟩) (l.drop (j + 1))) := Lib.hid (by have := HSj.out.suf 1 (some ⟨b, off + j * 5 + 5, none⟩) (fun _ => by simp [add_none]); rwa [List.drop_drop] at this)
            go_upto_region 5 with fail
            refine wp_region_held_drew (S := fun w' => w'.cell? ⟨w.heap.size, 0, none⟩ = some (.int .i64 a) ∧ w'.cell? ⟨b, off + j * 5, none⟩ = some (.int .i64 a)) (by kernel_rfl) ⟨HVq.out.c50.1, hq0⟩ (fun hHeld => ?_)
            refine to_lin (T := put5T) (n := 12) put5S ⟨by kernel_rfl, by kernel_rfl, by kernel_rfl⟩ (by kernel_rfl) (fun hTag => ?_)
            iterate 12 (refine lin_on (v := ?_) rfl (fun _ _ _ h => h) (by rfl) ?_ (by assumption) ?_; rotate_left; (· (intro wq hSw; go_simp; try with_reducible rfl)); try simp only [Act.put, List.setIfInBounds_toArray, List.set_cons_zero, List.set_cons_succ])
            refine lin_done ?_
            skip
            obtain ⟨k0, k1, k2, k3, k4⟩ := HVq.out.c50
            have HKq := Lib.hid HVq.out.c50
            have HKd := Lib.hid HVq.out.drew.c50
            have hszq := HVq.out.1.size
            have HSa : Hid (SeesF wc.drew.drew wc.drew.drew.heap.size (some ⟨b, off, none⟩) (l.take j)) := Lib.hid (((HS.out.below HVq.out.1.drew).mono hszq).pre j)
            have HSr2 : Hid (SeesF wc.drew.drew wc.drew.drew.heap.size (some ⟨b, off + j * 5 + 5, none⟩) (l.drop (j + 1))) := Lib.hid HSr.out.drew
            have HSf : Hid (SeesE 2 encPoint wc.drew wc.drew.heap.size Af ps) := Lib.hid ((HSp.out.below HVq.out.1).mono hszq)
            have HNa : Hid ((l.take j).length = j) := Lib.hid (by rw [List.length_take, HN.out]; omega)
            have hRl : (n - j - 1) ≤ n := by rw [← HNr.out, ← HRV.out, ← HN.out]; exact Nat.le_trans (rest_sub l a).length_le (by rw [List.length_drop]; omega)
            have HPr : Hid (SmallF (l.drop (j + 1))) := Lib.hid (fun i g hg => by
              have hm := (rest_sub l a).subset (by rw [HRV.out]; exact List.mem_of_getElem? hg)
              obtain ⟨q, hq⟩ := List.getElem?_of_mem (List.mem_of_mem_drop hm)
              exact HP.out q g hq)
            have HlA : Hid (j ≤ 1099511627776) := Lib.hid (by omega)
            have HlR : Hid ((n - j - 1) ≤ 1099511627776) := Lib.hid (by omega)
            have HPa := Lib.hid (HP.out.take j).few
            have HPf := Lib.hid HPr.out.few
            have HPn := Lib.hid HP.out.few
            have HlN : Hid (n ≤ 1099511627776) := Lib.hid (by omega)
            have hj1 : (j : Int) ≤ (c : Int) := by omega
            have hj0 : (0 : Int) ≤ (j : Int) := by omega
            have hpl2 : ps.length ≤ 1099511627776 := by omega
            go_upto_region 7 with fail
            go_region_held3 (fun w' => w'.cell? ⟨w.heap.size, 0, none⟩ = some (.int .i64 a) ∧ w'.cell? ⟨w.heap.size, 1, none⟩ = some (.int .i64 kd) ∧ w'.cell? ⟨w.heap.size, 2, none⟩ = some (.int .i64 rk) ∧ w'.cell? ⟨w.heap.size, 3, none⟩ = some (.string s) ∧ w'.cell? ⟨w.heap.size, 4, none⟩ = some (.slice Af ps.length cf)) (first | with_reducible exact ⟨k0, k1, k2, k3, k4⟩ | with_reducible exact HKd.out | with_reducible exact HK.out | with_reducible exact HKa.out | fail) (first
              | (go_at_call 165; (with_reducible refine (sl9Copy_at _ _ _ _ _ HNr.out HSr4.out HlR.out HPf.out).mono ?_); rintro e w5 ⟨A5, L5, c5, hL5, rfl, ho5, hb5⟩; have HO5 := Lib.hid ho5; have HB5 := Lib.hid hb5; have HV5 := Lib.hid (HV4.out.next hb5); have HK := Lib.hid HV5.out.c50; have HL45 : Hid (L4.length + L5.length ≤ 1099511627776) := Lib.hid (by have e4 := congrArg List.length hL4.out; have e2 := congrArg List.length hL2.out; have e5 := congrArg List.length hL5.out; rw [HNa.out] at e2; rw [HNr.out] at e5; simp only [List.length_append, List.length_singleton] at e4; omega))
              | (go_at_call 166; refine (sl9Feature_any a kd rk s Af cf ps _ HSf2.out hpl2).mono ?_; rintro e w3 ⟨A3, P, c3, hP, rfl, ho3, hb3⟩; have HPP := hP; have HO3 := Lib.hid ho3; have HB3 := Lib.hid hb3; have HV3 := Lib.hid (HV2.out.next hb3); have HK := Lib.hid HV3.out.c50; have HKa := Lib.hid (HV3.out.al (.cells (FtC a kd rk s A3 P.length c3) 41)).c50; have HSr3 := Lib.hid (HSr2b.out.belowAll hb3); have hl21 : Hid (L2.length + 1 ≤ 1099511627776) := Lib.hid (by have e2 := congrArg List.length hL2.out; rw [HNa.out] at e2; omega))
              | (go_at_call 165; (with_reducible refine (sl9Copy_at _ _ _ _ _ HNa.out HSa.out HlA.out HPa.out).mono ?_); rintro e w2 ⟨A2, L2, c2, hL2, rfl, ho2, hb2⟩; have HO2 := Lib.hid ho2; have HB2 := Lib.hid hb2; have HV2 := Lib.hid (HVq.out.drew.next hb2); have HK := Lib.hid HV2.out.c50; have HSf2 := Lib.hid ((HSf.out.drew.below hb2).mono hb2.size); have HSr2b := Lib.hid (HSr2.out.belowAll hb2))
              | (refine stepF2 w5 _ _ (by rfl) (by rfl) HO4.out HB5.out _ _ _ HO5.out (by rfl) HL45.out HB4.out.size ?_; intro A6 c6 L6 w6 hL6 h1 h2 ho6 hb6; have HO6 := Lib.hid ho6; have HB6 := Lib.hid hb6; have HV6 := Lib.hid (HV5.out.keepB hb6 (by show w.heap.size + 1 ≤ wc.drew.heap.size; exact HVq.out.more1)); have HK := Lib.hid HV6.out.c50)
              | (refine stepF1 w3 _ _ (by rfl) (by rfl) HO2.out HB3.out HO3.out (by rfl) hl21.out HB2.out.size ?_; intro A4 c4 L4 w4 hL4 h1 h2 ho4 hb4; have HO4 := Lib.hid ho4; have HB4 := Lib.hid (((HB2.out.trans (HB3.out.mono HB2.out.size)).alloc (Nat.le_trans HB2.out.size HB3.out.size) _).trans hb4); have HV4 := Lib.hid ((HV3.out.al (.cells (FtC a kd rk s A3 P.length c3) 41)).keepB hb4 (by show w.heap.size + 1 ≤ wc.drew.heap.size; exact HVq.out.more1)); have HK := Lib.hid HV4.out.c50; have HSr4 : Hid (SeesF w4 w4.heap.size (some ⟨b, off + j * 5 + 5, none⟩) (l.drop (j + 1))) := Lib.hid ((HSr2.out.below HB4.out).mono HB4.out.size))
              | fail)
            all_goals
              have HE : Hid (L6 = putOut l (a, kd, rk, s, ps)) := Lib.hid (by rw [hL6.out, hL4.out, hL2.out, hL5.out, HPP.out]; show _ = l.take (cutK l a) ++ [(a, kd, rk, s, ps)] ++ restV l a; rw [HKC.out, HRV.out])
              have h6 : L6.length ≤ 2100000 := by
                have e6 := congrArg List.length hL6.out; have e4 := congrArg List.length hL4.out; have e2 := congrArg List.length hL2.out; have e5 := congrArg List.length hL5.out
                rw [HNa.out] at e2; rw [HNr.out] at e5
                simp only [List.length_append, List.length_singleton] at e4 e6
                omega
              have HB7 := Lib.hid (HV6.out.1)
              have HS7 := Lib.hid ((HS.out.below HV6.out.1).mono HV6.out.1.size)
              have HO7 := Lib.hid (HO6.out.mono (show w.heap.size ≤ wc.drew.drew.heap.size from hszq))
              have HSm : Hid (SmallF L6) := Lib.hid (by rw [HE.out]; exact put_small HP.out hpl hsz)
              clear HK HKa HV6 HV5 HV4 HV3 HV2 HO2 HO3 HO4 HO5 HB2 HB3 HB4 HB5 HB6 h1 h2 ho6 hb6
              go_wp2_with fail
              obtain ⟨z, hz⟩ : ∃ z, srcV L6 = z := ⟨_, rfl⟩
              have hl6 : L6.length ≤ 1099511627776 := by omega
              (with_reducible refine (sIsSource_is A6 c6 L6 _ HO7.out.sees hl6 HSm.out z hz).mono ?_)
              rintro e w8 ⟨rfl, hb8⟩
              have HO8 := Lib.hid (HO7.out.belowAll hb8)
              have HB8 := Lib.hid (HB7.out.trans (hb8.mono HB7.out.size))
              have HS8 := Lib.hid (HS7.out.belowAll hb8)
              rw [HE.out] at hz
              have HZ := Lib.hid hz
              clear hb8 hz HO7 HB7 HS7
              cases z
              · have HT := Lib.hid (put_no HZ.out)
                go_wp2_with fail
                (with_reducible refine (sl9Copy_at _ _ _ _ _ HN.out HS8.out HlN.out HPn.out).mono ?_)
                rintro e w9 ⟨A9, L9, c9, hL9, rfl, ho9, hb9⟩
                have HO9 := Lib.hid ho9
                have HB9 := Lib.hid (HB8.out.trans (hb9.mono HB8.out.size))
                have hsz8 := HB8.out.size
                clear ho9 hb9
                go_wp2
                go_ret2
                exact ⟨A9, L9, c9, Lib.hid (by rw [hL9.out, HT.out]), by rw [HT.out]; rfl, HO9.out.mono hsz8, HB9.out⟩
              · have HT := Lib.hid (put_yes HZ.out)
                go_wp2
                go_ret2
                exact ⟨A6, L6, c6, Lib.hid (by rw [HE.out, HT.out]), by rw [HT.out]; rfl, HO8.out, HB8.out⟩
        · have HRV := Lib.hid (rest_other HKC.out HG.out hga)
          have HNr : Hid ((l.drop j).length = n - j) := Lib.hid (by rw [List.length_drop, HN.out])
          have HSr := HSj
          go_upto_region 5 with fail
          refine wp_region_held_drew (S := fun w' => w'.cell? ⟨w.heap.size, 0, none⟩ = some (.int .i64 a) ∧ w'.cell? ⟨b, off + j * 5, none⟩ = some (.int .i64 g0)) (by kernel_rfl) ⟨HVq.out.c50.1, hq0⟩ (fun hHeld => ?_)
          refine to_lin (T := put5T) (n := 12) put5S ⟨by kernel_rfl, by kernel_rfl, by kernel_rfl⟩ (by kernel_rfl) (fun hTag => ?_)
          iterate 12 (refine lin_on (v := ?_) rfl (fun _ _ _ h => h) (by rfl) ?_ (by assumption) ?_; rotate_left; (· (intro wq hSw; go_simp; try with_reducible rfl)); try simp only [Act.put, List.setIfInBounds_toArray, List.set_cons_zero, List.set_cons_succ])
          refine lin_done ?_
          skip
          obtain ⟨k0, k1, k2, k3, k4⟩ := HVq.out.c50
          have HKq := Lib.hid HVq.out.c50
          have HKd := Lib.hid HVq.out.drew.c50
          have hszq := HVq.out.1.size
          have HSa : Hid (SeesF wc.drew.drew wc.drew.drew.heap.size (some ⟨b, off, none⟩) (l.take j)) := Lib.hid (((HS.out.below HVq.out.1.drew).mono hszq).pre j)
          have HSr2 : Hid (SeesF wc.drew.drew wc.drew.drew.heap.size (some ⟨b, off + j * 5, none⟩) (l.drop j)) := Lib.hid HSr.out.drew
          have HSf : Hid (SeesE 2 encPoint wc.drew wc.drew.heap.size Af ps) := Lib.hid ((HSp.out.below HVq.out.1).mono hszq)
          have HNa : Hid ((l.take j).length = j) := Lib.hid (by rw [List.length_take, HN.out]; omega)
          have hRl : (n - j) ≤ n := by rw [← HNr.out, ← HRV.out, ← HN.out]; exact Nat.le_trans (rest_sub l a).length_le (by rw [List.length_drop]; omega)
          have HPr : Hid (SmallF (l.drop j)) := Lib.hid (fun i g hg => by
            have hm := (rest_sub l a).subset (by rw [HRV.out]; exact List.mem_of_getElem? hg)
            obtain ⟨q, hq⟩ := List.getElem?_of_mem (List.mem_of_mem_drop hm)
            exact HP.out q g hq)
          have HlA : Hid (j ≤ 1099511627776) := Lib.hid (by omega)
          have HlR : Hid ((n - j) ≤ 1099511627776) := Lib.hid (by omega)
          have HPa := Lib.hid (HP.out.take j).few
          have HPf := Lib.hid HPr.out.few
          have HPn := Lib.hid HP.out.few
          have HlN : Hid (n ≤ 1099511627776) := Lib.hid (by omega)
          have hj1 : (j : Int) ≤ (c : Int) := by omega
          have hj0 : (0 : Int) ≤ (j : Int) := by omega
          have hpl2 : ps.length ≤ 1099511627776 := by omega
          go_upto_region 7 with fail
          go_region_held3 (fun w' => w'.cell? ⟨w.heap.size, 0, none⟩ = some (.int .i64 a) ∧ w'.cell? ⟨w.heap.size, 1, none⟩ = some (.int .i64 kd) ∧ w'.cell? ⟨w.heap.size, 2, none⟩ = some (.int .i64 rk) ∧ w'.cell? ⟨w.heap.size, 3, none⟩ = some (.string s) ∧ w'.cell? ⟨w.heap.size, 4, none⟩ = some (.slice Af ps.length cf)) (first | with_reducible exact ⟨k0, k1, k2, k3, k4⟩ | with_reducible exact HKd.out | with_reducible exact HK.out | with_reducible exact HKa.out | fail) (first
            | (go_at_call 165; (with_reducible refine (sl9Copy_at _ _ _ _ _ HNr.out HSr4.out HlR.out HPf.out).mono ?_); rintro e w5 ⟨A5, L5, c5, hL5, rfl, ho5, hb5⟩; have HO5 := Lib.hid ho5; have HB5 := Lib.hid hb5; have HV5 := Lib.hid (HV4.out.next hb5); have HK := Lib.hid HV5.out.c50; have HL45 : Hid (L4.length + L5.length ≤ 1099511627776) := Lib.hid (by have e4 := congrArg List.length hL4.out; have e2 := congrArg List.length hL2.out; have e5 := congrArg List.length hL5.out; rw [HNa.out] at e2; rw [HNr.out] at e5; simp only [List.length_append, List.length_singleton] at e4; omega))
            | (go_at_call 166; refine (sl9Feature_any a kd rk s Af cf ps _ HSf2.out hpl2).mono ?_; rintro e w3 ⟨A3, P, c3, hP, rfl, ho3, hb3⟩; have HPP := hP; have HO3 := Lib.hid ho3; have HB3 := Lib.hid hb3; have HV3 := Lib.hid (HV2.out.next hb3); have HK := Lib.hid HV3.out.c50; have HKa := Lib.hid (HV3.out.al (.cells (FtC a kd rk s A3 P.length c3) 41)).c50; have HSr3 := Lib.hid (HSr2b.out.belowAll hb3); have hl21 : Hid (L2.length + 1 ≤ 1099511627776) := Lib.hid (by have e2 := congrArg List.length hL2.out; rw [HNa.out] at e2; omega))
            | (go_at_call 165; (with_reducible refine (sl9Copy_at _ _ _ _ _ HNa.out HSa.out HlA.out HPa.out).mono ?_); rintro e w2 ⟨A2, L2, c2, hL2, rfl, ho2, hb2⟩; have HO2 := Lib.hid ho2; have HB2 := Lib.hid hb2; have HV2 := Lib.hid (HVq.out.drew.next hb2); have HK := Lib.hid HV2.out.c50; have HSf2 := Lib.hid ((HSf.out.drew.below hb2).mono hb2.size); have HSr2b := Lib.hid (HSr2.out.belowAll hb2))
            | (refine stepF2 w5 _ _ (by rfl) (by rfl) HO4.out HB5.out _ _ _ HO5.out (by rfl) HL45.out HB4.out.size ?_; intro A6 c6 L6 w6 hL6 h1 h2 ho6 hb6; have HO6 := Lib.hid ho6; have HB6 := Lib.hid hb6; have HV6 := Lib.hid (HV5.out.keepB hb6 (by show w.heap.size + 1 ≤ wc.drew.heap.size; exact HVq.out.more1)); have HK := Lib.hid HV6.out.c50)
            | (refine stepF1 w3 _ _ (by rfl) (by rfl) HO2.out HB3.out HO3.out (by rfl) hl21.out HB2.out.size ?_; intro A4 c4 L4 w4 hL4 h1 h2 ho4 hb4; have HO4 := Lib.hid ho4; have HB4 := Lib.hid (((HB2.out.trans (HB3.out.mono HB2.out.size)).alloc (Nat.le_trans HB2.out.size HB3.out.size) _).trans hb4); have HV4 := Lib.hid ((HV3.out.al (.cells (FtC a kd rk s A3 P.length c3) 41)).keepB hb4 (by show w.heap.size + 1 ≤ wc.drew.heap.size; exact HVq.out.more1)); have HK := Lib.hid HV4.out.c50; have HSr4 : Hid (SeesF w4 w4.heap.size (some ⟨b, off + j * 5, none⟩) (l.drop j)) := Lib.hid ((HSr2.out.below HB4.out).mono HB4.out.size))
            | fail)
          all_goals
            have HE : Hid (L6 = putOut l (a, kd, rk, s, ps)) := Lib.hid (by rw [hL6.out, hL4.out, hL2.out, hL5.out, HPP.out]; show _ = l.take (cutK l a) ++ [(a, kd, rk, s, ps)] ++ restV l a; rw [HKC.out, HRV.out])
            have h6 : L6.length ≤ 2100000 := by
              have e6 := congrArg List.length hL6.out; have e4 := congrArg List.length hL4.out; have e2 := congrArg List.length hL2.out; have e5 := congrArg List.length hL5.out
              rw [HNa.out] at e2; rw [HNr.out] at e5
              simp only [List.length_append, List.length_singleton] at e4 e6
              omega
            have HB7 := Lib.hid (HV6.out.1)
            have HS7 := Lib.hid ((HS.out.below HV6.out.1).mono HV6.out.1.size)
            have HO7 := Lib.hid (HO6.out.mono (show w.heap.size ≤ wc.drew.drew.heap.size from hszq))
            have HSm : Hid (SmallF L6) := Lib.hid (by rw [HE.out]; exact put_small HP.out hpl hsz)
            clear HK HKa HV6 HV5 HV4 HV3 HV2 HO2 HO3 HO4 HO5 HB2 HB3 HB4 HB5 HB6 h1 h2 ho6 hb6
            go_wp2_with fail
            obtain ⟨z, hz⟩ : ∃ z, srcV L6 = z := ⟨_, rfl⟩
            have hl6 : L6.length ≤ 1099511627776 := by omega
            (with_reducible refine (sIsSource_is A6 c6 L6 _ HO7.out.sees hl6 HSm.out z hz).mono ?_)
            rintro e w8 ⟨rfl, hb8⟩
            have HO8 := Lib.hid (HO7.out.belowAll hb8)
            have HB8 := Lib.hid (HB7.out.trans (hb8.mono HB7.out.size))
            have HS8 := Lib.hid (HS7.out.belowAll hb8)
            rw [HE.out] at hz
            have HZ := Lib.hid hz
            clear hb8 hz HO7 HB7 HS7
            cases z
            · have HT := Lib.hid (put_no HZ.out)
              go_wp2_with fail
              (with_reducible refine (sl9Copy_at _ _ _ _ _ HN.out HS8.out HlN.out HPn.out).mono ?_)
              rintro e w9 ⟨A9, L9, c9, hL9, rfl, ho9, hb9⟩
              have HO9 := Lib.hid ho9
              have HB9 := Lib.hid (HB8.out.trans (hb9.mono HB8.out.size))
              have hsz8 := HB8.out.size
              clear ho9 hb9
              go_wp2
              go_ret2
              exact ⟨A9, L9, c9, Lib.hid (by rw [hL9.out, HT.out]), by rw [HT.out]; rfl, HO9.out.mono hsz8, HB9.out⟩
            · have HT := Lib.hid (put_yes HZ.out)
              go_wp2
              go_ret2
              exact ⟨A6, L6, c6, Lib.hid (by rw [HE.out, HT.out]), by rw [HT.out]; rfl, HO8.out, HB8.out⟩
      · obtain rfl : j = n := by omega
        have HRV := Lib.hid (rest_nil HKC.out (by rw [HN.out]; exact Nat.le_refl _))
        have hjz : (0 : Int) ≤ (j : Int) := by omega
        have hnc : (j : Int) ≤ (c : Int) := by omega
        have HNr : Hid (([] : List Feat).length = 0) := Lib.hid rfl
        by_cases hcj : c = j
        · have HSr : Hid (SeesF wc.drew wc.drew.heap.size A []) := Lib.hid SeesF.nil
          go_upto_region 5 with fail
          refine wp_region_held_drew (S := fun w' => True) (by kernel_rfl) trivial (fun hHeld => ?_)
          refine to_lin (T := put5T) (n := 12) put5S ⟨by kernel_rfl, by kernel_rfl, by kernel_rfl⟩ (by kernel_rfl) (fun hTag => ?_)
          iterate 4 (refine lin_on (v := ?_) rfl (fun _ _ _ h => h) (by rfl) ?_ (by assumption) ?_; rotate_left; (· (intro wq hSw; go_simp; try with_reducible rfl)); try simp only [Act.put, List.setIfInBounds_toArray, List.set_cons_zero, List.set_cons_succ])
          iterate 7 (refine lin_off rfl (fun _ _ _ h => h) (by rfl) (by assumption) ?_; try simp only [Act.put, List.setIfInBounds_toArray, List.set_cons_zero, List.set_cons_succ])
          (refine lin_on (v := ?_) rfl (fun _ _ _ h => h) (by rfl) ?_ (by assumption) ?_; rotate_left; (· (intro wq hSw; go_simp; try with_reducible rfl)); try simp only [Act.put, List.setIfInBounds_toArray, List.set_cons_zero, List.set_cons_succ])
          refine lin_done ?_
          skip
          obtain ⟨k0, k1, k2, k3, k4⟩ := HVq.out.c50
          have HKq := Lib.hid HVq.out.c50
          have HKd := Lib.hid HVq.out.drew.c50
          have hszq := HVq.out.1.size
          have HSa : Hid (SeesF wc.drew.drew wc.drew.drew.heap.size A (l.take j)) := Lib.hid (((HS.out.below HVq.out.1.drew).mono hszq).pre j)
          have HSr2 : Hid (SeesF wc.drew.drew wc.drew.drew.heap.size A ([] : List Feat)) := Lib.hid HSr.out.drew
          have HSf : Hid (SeesE 2 encPoint wc.drew wc.drew.heap.size Af ps) := Lib.hid ((HSp.out.below HVq.out.1).mono hszq)
          have HNa : Hid ((l.take j).length = j) := Lib.hid (by rw [List.length_take, HN.out]; omega)
          have hRl : 0 ≤ j := by rw [← HNr.out, ← HRV.out, ← HN.out]; exact Nat.le_trans (rest_sub l a).length_le (by rw [List.length_drop]; omega)
          have HPr : Hid (SmallF ([] : List Feat)) := Lib.hid (fun i g hg => by
            have hm := (rest_sub l a).subset (by rw [HRV.out]; exact List.mem_of_getElem? hg)
            obtain ⟨q, hq⟩ := List.getElem?_of_mem (List.mem_of_mem_drop hm)
            exact HP.out q g hq)
          have HlA : Hid (j ≤ 1099511627776) := Lib.hid (by omega)
          have HlR : Hid (0 ≤ 1099511627776) := Lib.hid (by omega)
          have HPa := Lib.hid (HP.out.take j).few
          have HPf := Lib.hid HPr.out.few
          have HPn := Lib.hid HP.out.few
          have HlN : Hid (j ≤ 1099511627776) := Lib.hid (by omega)
          have hj1 : (j : Int) ≤ (c : Int) := by omega
          have hj0 : (0 : Int) ≤ (j : Int) := by omega
          have hpl2 : ps.length ≤ 1099511627776 := by omega
          go_upto_region 7 with fail
          go_region_held3 (fun w' => w'.cell? ⟨w.heap.size, 0, none⟩ = some (.int .i64 a) ∧ w'.cell? ⟨w.heap.size, 1, none⟩ = some (.int .i64 kd) ∧ w'.cell? ⟨w.heap.size, 2, none⟩ = some (.int .i64 rk) ∧ w'.cell? ⟨w.heap.size, 3, none⟩ = some (.string s) ∧ w'.cell? ⟨w.heap.size, 4, none⟩ = some (.slice Af ps.length cf)) (first | with_reducible exact ⟨k0, k1, k2, k3, k4⟩ | with_reducible exact HKd.out | with_reducible exact HK.out | with_reducible exact HKa.out | fail) (first
            | (go_at_call 165; (with_reducible refine (sl9Copy_at _ _ _ _ _ HNr.out HSr4.out HlR.out HPf.out).mono ?_); rintro e w5 ⟨A5, L5, c5, hL5, rfl, ho5, hb5⟩; have HO5 := Lib.hid ho5; have HB5 := Lib.hid hb5; have HV5 := Lib.hid (HV4.out.next hb5); have HK := Lib.hid HV5.out.c50; have HL45 : Hid (L4.length + L5.length ≤ 1099511627776) := Lib.hid (by have e4 := congrArg List.length hL4.out; have e2 := congrArg List.length hL2.out; have e5 := congrArg List.length hL5.out; rw [HNa.out] at e2; rw [HNr.out] at e5; simp only [List.length_append, List.length_singleton] at e4; omega))
            | (go_at_call 166; refine (sl9Feature_any a kd rk s Af cf ps _ HSf2.out hpl2).mono ?_; rintro e w3 ⟨A3, P, c3, hP, rfl, ho3, hb3⟩; have HPP := hP; have HO3 := Lib.hid ho3; have HB3 := Lib.hid hb3; have HV3 := Lib.hid (HV2.out.next hb3); have HK := Lib.hid HV3.out.c50; have HKa := Lib.hid (HV3.out.al (.cells (FtC a kd rk s A3 P.length c3) 41)).c50; have HSr3 := Lib.hid (HSr2b.out.belowAll hb3); have hl21 : Hid (L2.length + 1 ≤ 1099511627776) := Lib.hid (by have e2 := congrArg List.length hL2.out; rw [HNa.out] at e2; omega))
            | (go_at_call 165; (with_reducible refine (sl9Copy_at _ _ _ _ _ HNa.out HSa.out HlA.out HPa.out).mono ?_); rintro e w2 ⟨A2, L2, c2, hL2, rfl, ho2, hb2⟩; have HO2 := Lib.hid ho2; have HB2 := Lib.hid hb2; have HV2 := Lib.hid (HVq.out.drew.next hb2); have HK := Lib.hid HV2.out.c50; have HSf2 := Lib.hid ((HSf.out.drew.below hb2).mono hb2.size); have HSr2b := Lib.hid (HSr2.out.belowAll hb2))
            | (refine stepF2 w5 _ _ (by rfl) (by rfl) HO4.out HB5.out _ _ _ HO5.out (by rfl) HL45.out HB4.out.size ?_; intro A6 c6 L6 w6 hL6 h1 h2 ho6 hb6; have HO6 := Lib.hid ho6; have HB6 := Lib.hid hb6; have HV6 := Lib.hid (HV5.out.keepB hb6 (by show w.heap.size + 1 ≤ wc.drew.heap.size; exact HVq.out.more1)); have HK := Lib.hid HV6.out.c50)
            | (refine stepF1 w3 _ _ (by rfl) (by rfl) HO2.out HB3.out HO3.out (by rfl) hl21.out HB2.out.size ?_; intro A4 c4 L4 w4 hL4 h1 h2 ho4 hb4; have HO4 := Lib.hid ho4; have HB4 := Lib.hid (((HB2.out.trans (HB3.out.mono HB2.out.size)).alloc (Nat.le_trans HB2.out.size HB3.out.size) _).trans hb4); have HV4 := Lib.hid ((HV3.out.al (.cells (FtC a kd rk s A3 P.length c3) 41)).keepB hb4 (by show w.heap.size + 1 ≤ wc.drew.heap.size; exact HVq.out.more1)); have HK := Lib.hid HV4.out.c50; have HSr4 : Hid (SeesF w4 w4.heap.size A ([] : List Feat)) := Lib.hid ((HSr2.out.below HB4.out).mono HB4.out.size))
            | fail)
          all_goals
            have HE : Hid (L6 = putOut l (a, kd, rk, s, ps)) := Lib.hid (by rw [hL6.out, hL4.out, hL2.out, hL5.out, HPP.out]; show _ = l.take (cutK l a) ++ [(a, kd, rk, s, ps)] ++ restV l a; rw [HKC.out, HRV.out])
            have h6 : L6.length ≤ 2100000 := by
              have e6 := congrArg List.length hL6.out; have e4 := congrArg List.length hL4.out; have e2 := congrArg List.length hL2.out; have e5 := congrArg List.length hL5.out
              rw [HNa.out] at e2; rw [HNr.out] at e5
              simp only [List.length_append, List.length_singleton] at e4 e6
              omega
            have HB7 := Lib.hid (HV6.out.1)
            have HS7 := Lib.hid ((HS.out.below HV6.out.1).mono HV6.out.1.size)
            have HO7 := Lib.hid (HO6.out.mono (show w.heap.size ≤ wc.drew.drew.heap.size from hszq))
            have HSm : Hid (SmallF L6) := Lib.hid (by rw [HE.out]; exact put_small HP.out hpl hsz)
            clear HK HKa HV6 HV5 HV4 HV3 HV2 HO2 HO3 HO4 HO5 HB2 HB3 HB4 HB5 HB6 h1 h2 ho6 hb6
            go_wp2_with fail
            obtain ⟨z, hz⟩ : ∃ z, srcV L6 = z := ⟨_, rfl⟩
            have hl6 : L6.length ≤ 1099511627776 := by omega
            (with_reducible refine (sIsSource_is A6 c6 L6 _ HO7.out.sees hl6 HSm.out z hz).mono ?_)
            rintro e w8 ⟨rfl, hb8⟩
            have HO8 := Lib.hid (HO7.out.belowAll hb8)
            have HB8 := Lib.hid (HB7.out.trans (hb8.mono HB7.out.size))
            have HS8 := Lib.hid (HS7.out.belowAll hb8)
            rw [HE.out] at hz
            have HZ := Lib.hid hz
            clear hb8 hz HO7 HB7 HS7
            cases z
            · have HT := Lib.hid (put_no HZ.out)
              go_wp2_with fail
              (with_reducible refine (sl9Copy_at _ _ _ _ _ HN.out HS8.out HlN.out HPn.out).mono ?_)
              rintro e w9 ⟨A9, L9, c9, hL9, rfl, ho9, hb9⟩
              have HO9 := Lib.hid ho9
              have HB9 := Lib.hid (HB8.out.trans (hb9.mono HB8.out.size))
              have hsz8 := HB8.out.size
              clear ho9 hb9
              go_wp2
              go_ret2
              exact ⟨A9, L9, c9, Lib.hid (by rw [hL9.out, HT.out]), by rw [HT.out]; rfl, HO9.out.mono hsz8, HB9.out⟩
            · have HT := Lib.hid (put_yes HZ.out)
              go_wp2
              go_ret2
              exact ⟨A6, L6, c6, Lib.hid (by rw [HE.out, HT.out]), by rw [HT.out]; rfl, HO8.out, HB8.out⟩
        · have HSr : Hid (SeesF wc.drew wc.drew.heap.size (Option.map (fun x => x.add (j * 5)) A) []) := Lib.hid SeesF.nil
          go_upto_region 5 with fail
          refine wp_region_held_drew (S := fun w' => True) (by kernel_rfl) trivial (fun hHeld => ?_)
          refine to_lin (T := put5T) (n := 12) put5S ⟨by kernel_rfl, by kernel_rfl, by kernel_rfl⟩ (by kernel_rfl) (fun hTag => ?_)
          iterate 4 (refine lin_on (v := ?_) rfl (fun _ _ _ h => h) (by rfl) ?_ (by assumption) ?_; rotate_left; (· (intro wq hSw; go_simp; try with_reducible rfl)); try simp only [Act.put, List.setIfInBounds_toArray, List.set_cons_zero, List.set_cons_succ])
          iterate 7 (refine lin_off rfl (fun _ _ _ h => h) (by rfl) (by assumption) ?_; try simp only [Act.put, List.setIfInBounds_toArray, List.set_cons_zero, List.set_cons_succ])
          (refine lin_on (v := ?_) rfl (fun _ _ _ h => h) (by rfl) ?_ (by assumption) ?_; rotate_left; (· (intro wq hSw; go_simp; try with_reducible rfl)); try simp only [Act.put, List.setIfInBounds_toArray, List.set_cons_zero, List.set_cons_succ])
          refine lin_done ?_
          skip
          obtain ⟨k0, k1, k2, k3, k4⟩ := HVq.out.c50
          have HKq := Lib.hid HVq.out.c50
          have HKd := Lib.hid HVq.out.drew.c50
          have hszq := HVq.out.1.size
          have HSa : Hid (SeesF wc.drew.drew wc.drew.drew.heap.size A (l.take j)) := Lib.hid (((HS.out.below HVq.out.1.drew).mono hszq).pre j)
          have HSr2 : Hid (SeesF wc.drew.drew wc.drew.drew.heap.size (Option.map (fun x => x.add (j * 5)) A) ([] : List Feat)) := Lib.hid HSr.out.drew
          have HSf : Hid (SeesE 2 encPoint wc.drew wc.drew.heap.size Af ps) := Lib.hid ((HSp.out.below HVq.out.1).mono hszq)
          have HNa : Hid ((l.take j).length = j) := Lib.hid (by rw [List.length_take, HN.out]; omega)
          have hRl : 0 ≤ j := by rw [← HNr.out, ← HRV.out, ← HN.out]; exact Nat.le_trans (rest_sub l a).length_le (by rw [List.length_drop]; omega)
          have HPr : Hid (SmallF ([] : List Feat)) := Lib.hid (fun i g hg => by
            have hm := (rest_sub l a).subset (by rw [HRV.out]; exact List.mem_of_getElem? hg)
            obtain ⟨q, hq⟩ := List.getElem?_of_mem (List.mem_of_mem_drop hm)
            exact HP.out q g hq)
          have HlA : Hid (j ≤ 1099511627776) := Lib.hid (by omega)
          have HlR : Hid (0 ≤ 1099511627776) := Lib.hid (by omega)
          have HPa := Lib.hid (HP.out.take j).few
          have HPf := Lib.hid HPr.out.few
          have HPn := Lib.hid HP.out.few
          have HlN : Hid (j ≤ 1099511627776) := Lib.hid (by omega)
          have hj1 : (j : Int) ≤ (c : Int) := by omega
          have hj0 : (0 : Int) ≤ (j : Int) := by omega
          have hpl2 : ps.length ≤ 1099511627776 := by omega
          go_upto_region 7 with fail
          go_region_held3 (fun w' => w'.cell? ⟨w.heap.size, 0, none⟩ = some (.int .i64 a) ∧ w'.cell? ⟨w.heap.size, 1, none⟩ = some (.int .i64 kd) ∧ w'.cell? ⟨w.heap.size, 2, none⟩ = some (.int .i64 rk) ∧ w'.cell? ⟨w.heap.size, 3, none⟩ = some (.string s) ∧ w'.cell? ⟨w.heap.size, 4, none⟩ = some (.slice Af ps.length cf)) (first | with_reducible exact ⟨k0, k1, k2, k3, k4⟩ | with_reducible exact HKd.out | with_reducible exact HK.out | with_reducible exact HKa.out | fail) (first
            | (go_at_call 165; (with_reducible refine (sl9Copy_at _ _ _ _ _ HNr.out HSr4.out HlR.out HPf.out).mono ?_); rintro e w5 ⟨A5, L5, c5, hL5, rfl, ho5, hb5⟩; have HO5 := Lib.hid ho5; have HB5 := Lib.hid hb5; have HV5 := Lib.hid (HV4.out.next hb5); have HK := Lib.hid HV5.out.c50; have HL45 : Hid (L4.length + L5.length ≤ 1099511627776) := Lib.hid (by have e4 := congrArg List.length hL4.out; have e2 := congrArg List.length hL2.out; have e5 := congrArg List.length hL5.out; rw [HNa.out] at e2; rw [HNr.out] at e5; simp only [List.length_append, List.length_singleton] at e4; omega))
            | (go_at_call 166; refine (sl9Feature_any a kd rk s Af cf ps _ HSf2.out hpl2).mono ?_; rintro e w3 ⟨A3, P, c3, hP, rfl, ho3, hb3⟩; have HPP := hP; have HO3 := Lib.hid ho3; have HB3 := Lib.hid hb3; have HV3 := Lib.hid (HV2.out.next hb3); have HK := Lib.hid HV3.out.c50; have HKa := Lib.hid (HV3.out.al (.cells (FtC a kd rk s A3 P.length c3) 41)).c50; have HSr3 := Lib.hid (HSr2b.out.belowAll hb3); have hl21 : Hid (L2.length + 1 ≤ 1099511627776) := Lib.hid (by have e2 := congrArg List.length hL2.out; rw [HNa.out] at e2; omega))
            | (go_at_call 165; (with_reducible refine (sl9Copy_at _ _ _ _ _ HNa.out HSa.out HlA.out HPa.out).mono ?_); rintro e w2 ⟨A2, L2, c2, hL2, rfl, ho2, hb2⟩; have HO2 := Lib.hid ho2; have HB2 := Lib.hid hb2; have HV2 := Lib.hid (HVq.out.drew.next hb2); have HK := Lib.hid HV2.out.c50; have HSf2 := Lib.hid ((HSf.out.drew.below hb2).mono hb2.size); have HSr2b := Lib.hid (HSr2.out.belowAll hb2))
            | (refine stepF2 w5 _ _ (by rfl) (by rfl) HO4.out HB5.out _ _ _ HO5.out (by rfl) HL45.out HB4.out.size ?_; intro A6 c6 L6 w6 hL6 h1 h2 ho6 hb6; have HO6 := Lib.hid ho6; have HB6 := Lib.hid hb6; have HV6 := Lib.hid (HV5.out.keepB hb6 (by show w.heap.size + 1 ≤ wc.drew.heap.size; exact HVq.out.more1)); have HK := Lib.hid HV6.out.c50)
            | (refine stepF1 w3 _ _ (by rfl) (by rfl) HO2.out HB3.out HO3.out (by rfl) hl21.out HB2.out.size ?_; intro A4 c4 L4 w4 hL4 h1 h2 ho4 hb4; have HO4 := Lib.hid ho4; have HB4 := Lib.hid (((HB2.out.trans (HB3.out.mono HB2.out.size)).alloc (Nat.le_trans HB2.out.size HB3.out.size) _).trans hb4); have HV4 := Lib.hid ((HV3.out.al (.cells (FtC a kd rk s A3 P.length c3) 41)).keepB hb4 (by show w.heap.size + 1 ≤ wc.drew.heap.size; exact HVq.out.more1)); have HK := Lib.hid HV4.out.c50; have HSr4 : Hid (SeesF w4 w4.heap.size (Option.map (fun x => x.add (j * 5)) A) ([] : List Feat)) := Lib.hid ((HSr2.out.below HB4.out).mono HB4.out.size))
            | fail)
          all_goals
            have HE : Hid (L6 = putOut l (a, kd, rk, s, ps)) := Lib.hid (by rw [hL6.out, hL4.out, hL2.out, hL5.out, HPP.out]; show _ = l.take (cutK l a) ++ [(a, kd, rk, s, ps)] ++ restV l a; rw [HKC.out, HRV.out])
            have h6 : L6.length ≤ 2100000 := by
              have e6 := congrArg List.length hL6.out; have e4 := congrArg List.length hL4.out; have e2 := congrArg List.length hL2.out; have e5 := congrArg List.length hL5.out
              rw [HNa.out] at e2; rw [HNr.out] at e5
              simp only [List.length_append, List.length_singleton] at e4 e6
              omega
            have HB7 := Lib.hid (HV6.out.1)
            have HS7 := Lib.hid ((HS.out.below HV6.out.1).mono HV6.out.1.size)
            have HO7 := Lib.hid (HO6.out.mono (show w.heap.size ≤ wc.drew.drew.heap.size from hszq))
            have HSm : Hid (SmallF L6) := Lib.hid (by rw [HE.out]; exact put_small HP.out hpl hsz)
            clear HK HKa HV6 HV5 HV4 HV3 HV2 HO2 HO3 HO4 HO5 HB2 HB3 HB4 HB5 HB6 h1 h2 ho6 hb6
            go_wp2_with fail
            obtain ⟨z, hz⟩ : ∃ z, srcV L6 = z := ⟨_, rfl⟩
            have hl6 : L6.length ≤ 1099511627776 := by omega
            (with_reducible refine (sIsSource_is A6 c6 L6 _ HO7.out.sees hl6 HSm.out z hz).mono ?_)
            rintro e w8 ⟨rfl, hb8⟩
            have HO8 := Lib.hid (HO7.out.belowAll hb8)
            have HB8 := Lib.hid (HB7.out.trans (hb8.mono HB7.out.size))
            have HS8 := Lib.hid (HS7.out.belowAll hb8)
            rw [HE.out] at hz
            have HZ := Lib.hid hz
            clear hb8 hz HO7 HB7 HS7
            cases z
            · have HT := Lib.hid (put_no HZ.out)
              go_wp2_with fail
              (with_reducible refine (sl9Copy_at _ _ _ _ _ HN.out HS8.out HlN.out HPn.out).mono ?_)
              rintro e w9 ⟨A9, L9, c9, hL9, rfl, ho9, hb9⟩
              have HO9 := Lib.hid ho9
              have HB9 := Lib.hid (HB8.out.trans (hb9.mono HB8.out.size))
              have hsz8 := HB8.out.size
              clear ho9 hb9
              go_wp2
              go_ret2
              exact ⟨A9, L9, c9, Lib.hid (by rw [hL9.out, HT.out]), by rw [HT.out]; rfl, HO9.out.mono hsz8, HB9.out⟩
            · have HT := Lib.hid (put_yes HZ.out)
              go_wp2
              go_ret2
              exact ⟨A6, L6, c6, Lib.hid (by rw [HE.out, HT.out]), by rw [HT.out]; rfl, HO8.out, HB8.out⟩
    · obtain ⟨g, hg, hga⟩ := cnd_yes HCz.out
      have hlt : j < n := by rw [← HN.out]; exact (List.getElem?_eq_some_iff.1 hg).1
      have HBn : Hid (∀ (m : Nat) (g : Feat), m < j + 1 → l[m]? = some g → g.1 < a) := Lib.hid (fun m g' hm hg' => by
        by_cases e : m = j
        · subst e
          obtain rfl : g' = g := Option.some.inj (hg'.symm.trans hg)
          exact hga
        · exact HB.out m g' (by omega) hg')
      clear hg hga HCz HB
      go_wp2
      go_roundw
      case rel => exact ⟨j + 1, by omega, by go_num, HBn, HVq⟩
      case measure => simp [intOf]; omega
end Go.Proofs.YtbnjaaegbmhopaaGreatDoor
end
section
/- Draws of sources: l9Source, l9Any, l9One. -/
namespace Go.Proofs.YtbnjaaegbmhopaaGreatDoor
open Go.ChangeShapes Go.WideShapes Go.ChangeAt Go.RowKit
set_option linter.unusedVariables false

/-- Drawn features are small. -/
def SmallD (l : List Feat) : Prop := ∀ f ∈ l, f.2.2.2.1.size ≤ 100 ∧ f.2.2.2.2.length ≤ 11
theorem SmallD.small {l : List Feat} (h : SmallD l) : SmallF l := fun j f hf => by
  have := h f (List.mem_of_getElem? hf)
  unfold maxLen
  omega
theorem put_mem {l : List Feat} {f g : Feat} (h : g ∈ (putV l f).1) : g ∈ l ∨ g = f := by
  unfold putV at h
  split at h
  · unfold putOut at h
    rw [List.append_assoc, List.mem_append] at h
    rcases h with h | h
    · exact .inl (List.mem_of_mem_take h)
    · rw [List.mem_append] at h
      rcases h with h | h
      · exact .inr (by simpa using h)
      · exact .inl (List.mem_of_mem_drop ((rest_sub l f.1).subset h))
  · exact .inl h
theorem SmallD.put {l : List Feat} {f : Feat} (h : SmallD l) (hf : f.2.2.2.1.size ≤ 100 ∧ f.2.2.2.2.length ≤ 11) : SmallD (putV l f).1 := fun g hg => by
  rcases put_mem hg with hg | rfl
  · exact h g hg
  · exact hf
theorem SmallD.set {l : List Feat} {f : Feat} (h : SmallD l) (i : Nat) (hf : f.2.2.2.1.size ≤ 100 ∧ f.2.2.2.2.length ≤ 11) : SmallD (l.set i f) := fun g hg => by
  rcases List.mem_or_eq_of_mem_set hg with hg | rfl
  · exact h g hg
  · exact hf
section
variable {p B lo : Nat} {w w' : World} {v : Value} {A : Option Addr} {l : List Feat} {x x' : FCel} {f f' : Feat}
theorem OwnE.keptP {α : Type} {n : Nat} {enc : α → List Value} {e : TypeId} {L : List α} (h : OwnE n enc w B e v L) (hg : w.grownBy w' (some p)) (hp : p < B) : OwnE n enc w' B e v L := by
  refine h.kept hg ?_
  match hv : v.ownBlock with
  | none => exact .inl rfl
  | some g => exact .inr fun e => by have := (h.lt g hv).1; have := Option.some.inj e; omega
theorem OwnF.keptP (h : OwnF w B v l) (hg : w.grownBy w' (some p)) (hp : p < B) : OwnF w' B v l := by
  obtain ⟨xs, h1, h2⟩ := h
  exact ⟨xs, h1.keptP hg hp, h2.1, h2.2.1, fun j x f hx hf => by
    obtain ⟨a, b, c⟩ := h2.2.2 j x f hx hf
    exact ⟨a, b.keptP hg hp, c⟩⟩
/-- A slice of features, all of it in blocks from lo on. -/
def SeesD (w : World) (lo : Nat) (A : Option Addr) (l : List Feat) : Prop :=
  ∃ xs : List FCel, xs.length = l.length ∧ SeesE 5 encF w w.heap.size A xs ∧ (∀ a, A = some a → lo ≤ a.block) ∧ ∀ (j : Nat) x f, xs[j]? = some x → l[j]? = some f → Deep w w.heap.size x f ∧ ∀ a, x.2.2.2.2.1 = some a → lo ≤ a.block
theorem SeesD.sees (h : SeesD w lo A l) : SeesF w w.heap.size A l := by
  obtain ⟨xs, h1, h2, h3, h4⟩ := h
  exact ⟨xs, h1, h2, fun j x f hx hf => (h4 j x f hx hf).1⟩
theorem SeesE.keptL {α : Type} {n : Nat} {enc : α → List Value} {l : List α} (h : SeesE n enc w w.heap.size A l) (hg : w.grownBy w' (some p)) (hp : p < lo) (hlo : ∀ a, A = some a → lo ≤ a.block) : SeesE n enc w' w'.heap.size A l := by
  refine SeesE.mono (fun j x hj => ?_) hg.size
  obtain ⟨b, off, e, hlt, hc⟩ := h j x hj
  have := hlo _ e
  dsimp only at this
  exact ⟨b, off, e, hlt, fun k u hu => hg.cell (hc k u hu) (fun e' => by have := Option.some.inj e'; simp only at this; omega)⟩
theorem SeesD.kept (h : SeesD w lo A l) (hg : w.grownBy w' (some p)) (hp : p < lo) : SeesD w' lo A l := by
  obtain ⟨xs, h1, h2, h3, h4⟩ := h
  refine ⟨xs, h1, h2.keptL hg hp h3, h3, fun j x f hx hf => ?_⟩
  obtain ⟨⟨d1, d2, d3, d4, d5, d6, d7⟩, hd⟩ := h4 j x f hx hf
  exact ⟨⟨d1, d2, d3, d4, d5, d6.keptL hg hp hd, d7⟩, hd⟩
theorem SeesD.at_ (h : SeesD w lo A l) {j : Nat} {a k r : Int} {s : ByteArray} {ps : List (Int × Int)} (hf : l[j]? = some (a, k, r, s, ps)) :
    ∃ b off A' c, A = some ⟨b, off, none⟩ ∧ b < w.heap.size ∧ SeesE 2 encPoint w w.heap.size A' ps ∧ (ps.length ≤ c ∧ (c : Int) ≤ 9223372036854775807) ∧ lo ≤ b ∧ (∀ x, A' = some x → lo ≤ x.block) ∧
      (w.cell? ⟨b, off + j * 5, none⟩ = some (.int .i64 a) ∧ w.cell? ⟨b, off + j * 5 + 1, none⟩ = some (.int .i64 k) ∧ w.cell? ⟨b, off + j * 5 + 2, none⟩ = some (.int .i64 r) ∧
        w.cell? ⟨b, off + j * 5 + 3, none⟩ = some (.string s) ∧ w.cell? ⟨b, off + j * 5 + 4, none⟩ = some (.slice A' ps.length c)) := by
  obtain ⟨xs, h1, h2, h3, h4⟩ := h
  have hj : j < l.length := (List.getElem?_eq_some_iff.1 hf).1
  obtain ⟨⟨a', k', r', s', A', m, c⟩, hx⟩ : ∃ x, xs[j]? = some x := ⟨_, List.getElem?_eq_getElem (by omega)⟩
  obtain ⟨b, off, e, hb, hc⟩ := h2 j _ hx
  obtain ⟨⟨e1, e2, e3, e4, e5, hs, hcap⟩, hlo⟩ := h4 j _ _ hx hf
  dsimp only at e1 e2 e3 e4 e5 hs hcap hlo
  subst e1 e2 e3 e4 e5
  exact ⟨b, off, A', c, e, hb, hs, hcap, h3 _ e, hlo, hc 0 _ rfl, hc 1 _ rfl, hc 2 _ rfl, hc 3 _ rfl, hc 4 _ rfl⟩
theorem OwnF.seesD {m c : Nat} (h : OwnF w B (.slice A m c) l) : SeesD w B A l := by
  obtain ⟨xs, h1, h2⟩ := h
  refine ⟨xs, h2.1, h1.sees elF, h1.base, fun j x f hx hf => ?_⟩
  obtain ⟨⟨e1, e2, e3, e4⟩, ho, _⟩ := h2.2.2 j x f hx hf
  have hc := own_caps ho
  exact ⟨⟨e1, e2, e3, e4, hc.1, ho.sees elPoint, hc.2⟩, ho.base⟩
/-- A cell of one feature is written. -/
theorem poke {g i k c : Nat} {xs : List FCel} {u : Value} (hR : RowE 5 encF w g 41 c xs) (hr : RowsF w B (.slice (some ⟨g, 0, none⟩) xs.length c) xs l) (hg : B ≤ g) (hx : xs[i]? = some x) (hk : k < 5) (he : encF x' = (encF x).set k u)
    (hD : Deep (w.setCell ⟨g, i * 5 + k, none⟩ u) (w.setCell ⟨g, i * 5 + k, none⟩ u).heap.size x' f') (hb : ∀ a, x'.2.2.2.2.1 = some a → B ≤ a.block) :
    SeesD (w.setCell ⟨g, i * 5 + k, none⟩ u) B (some ⟨g, 0, none⟩) (l.set i f') := by
  have hi : i < xs.length := (List.getElem?_eq_some_iff.1 hx).1
  refine ⟨xs.set i x', by rw [List.length_set, List.length_set]; exact hr.1, ((hR.put elF hx hk he).own elF (Nat.le_refl _)).sees elF, fun a ha => by simp only [Option.some.injEq] at ha; subst ha; exact hg, fun j y f hy hf => ?_⟩
  by_cases e : i = j
  · subst e
    rw [List.getElem?_set_self hi, Option.some.injEq] at hy
    rw [List.getElem?_set_self (by rw [← hr.1]; exact hi), Option.some.injEq] at hf
    subst hy hf
    exact ⟨hD, hb⟩
  · rw [List.getElem?_set_ne e] at hy hf
    obtain ⟨⟨e1, e2, e3, e4⟩, ho, ha⟩ := hr.2.2 j y f hy hf
    have hc := own_caps ho
    refine ⟨⟨e1, e2, e3, e4, hc.1, (ho.sees elPoint).offAll g _ u fun a h => ?_, hc.2⟩, ho.base⟩
    intro e
    have := ha g (by simp [slF, Value.ownBlock, h, ← e])
    simp [Value.ownBlock] at this
/-- The same, where the points stay. -/
theorem pokeS {g i k c : Nat} {xs : List FCel} {u : Value} (hR : RowE 5 encF w g 41 c xs) (hr : RowsF w B (.slice (some ⟨g, 0, none⟩) xs.length c) xs l) (hg : B ≤ g) (hx : xs[i]? = some x) (hf : l[i]? = some f) (hk : k < 5) (he : encF x' = (encF x).set k u)
    (h1 : x'.1 = f'.1 ∧ x'.2.1 = f'.2.1 ∧ x'.2.2.1 = f'.2.2.1 ∧ x'.2.2.2.1 = f'.2.2.2.1) (h2 : x'.2.2.2.2 = x.2.2.2.2) (h3 : f'.2.2.2.2 = f.2.2.2.2) :
    SeesD (w.setCell ⟨g, i * 5 + k, none⟩ u) B (some ⟨g, 0, none⟩) (l.set i f') := by
  obtain ⟨-, ho, ha⟩ := hr.2.2 i x f hx hf
  have hc := own_caps ho
  refine poke hR hr hg hx hk he ⟨h1.1, h1.2.1, h1.2.2.1, h1.2.2.2, by rw [h2, h3]; exact hc.1, ?_, by rw [h2, h3]; exact hc.2⟩ (by rw [h2]; exact ho.base)
  rw [h2, h3]
  refine (ho.sees elPoint).offAll g _ u fun a h e => ?_
  have := ha g (by simp [slF, Value.ownBlock, h, ← e])
  simp [Value.ownBlock] at this
end
/-- A source was drawn: the call owns it. -/
def DSrc (p : Nat) (w : World) (e : Ending) (w' : World) : Prop :=
  ∃ A c l, e = .returned (.slice A l.length c) ∧ l.length ≤ 16 ∧ SmallD l ∧ OwnF w' w.heap.size (.slice A l.length c) l ∧ Cur w' p ∧ w.grownBy w' (some p)
set_option maxRecDepth 100000 in
set_option maxHeartbeats 4000000 in
theorem l9Source_any (p : Nat) (w : World) (hc : Cur w p) :
    Calls Tryz.prog 125 #[.pointer (some ⟨p, 0, none⟩)] w (DSrc p w) := by
  have hp := cur_lt hc
  have HG := Lib.hid ((CurG.start hc).al (.cells #[] 41))
  have HO := Lib.hid (OwnF.lit w w.heap.size (Nat.le_refl _))
  clear hc
  go_enter Tryz.func125, Tryz.ntmps125
  go_wp2
  go_loopw [3, 4] (fun v i wr => ∃ (n : Nat) (A : Option Addr) (c : Nat) (l : List Feat), v = .slice A l.length c ∧ i = .int .i64 (n : Int) ∧ l.length < n ∧ n ≤ 7 ∧ Hid (SmallD l) ∧ Hid (OwnF wr w.heap.size (.slice A l.length c) l) ∧ Hid (CurG p w wr)) (fun _ i _ => 8 - (intOf i).toNat)
  case atStart => exact ⟨1, _, _, [], rfl, rfl, by simp, by decide, Lib.hid (fun f hf => by simp at hf), HO, HG⟩
  case round =>
    clear HO HG
    obtain ⟨n, A, c, l, rfl, rfl, hln, hn7, HD, HO, HG⟩ := hrel
    go_wp2_with fail
    refine (below_any p 6 _ (by decide) (by decide) HG.out.2.1).mono ?_
    rintro e w1 ⟨⟨r, hr0, hr1, rfl⟩, hc1, hg1⟩
    have HG1 := Lib.hid (HG.out.next hc1 hg1); have HO1 := Lib.hid (HO.out.keptP hg1 HG.out.1)
    clear hc1 hg1 HG HO
    have hw : IntKind.i64.wrap (1 + r) = 1 + r := IntWalk.i64_in _ (by omega)
    by_cases hle : (n : Int) ≤ 1 + r
    · go_wp2_with fail
      refine (l9Draw_any p (n : Int) _ HG1.out.2.1).mono ?_
      rintro e w2 ⟨a, k, rk, s, Af, cf, ps, rfl, hs, hps, -, hsp, -, hc2, hg2⟩
      have HG2 := Lib.hid (HG1.out.next hc2 hg2); have HO2 := Lib.hid (HO1.out.keptP hg2 HG1.out.1)
      have HSp := Lib.hid hsp
      clear hc2 hg2 HG1 HO1 hsp
      have hcap := own_capsF HO2.out
      go_wp2_with fail
      refine (sPut_any A c l a k rk s Af cf ps _ HO2.out.sees HSp.out (by omega) hcap.1 hcap.2 HD.out.small (by omega) (by unfold maxLen; omega)).mono ?_
      rintro e w3 ⟨A3, L3, c3, hL3, rfl, ho3, hb3⟩
      have HG3 := Lib.hid (HG2.out.bel hb3)
      have HO3 := Lib.hid (ho3.mono HG2.out.2.2.size)
      have HD3 : Hid (SmallD L3) := Lib.hid (by rw [hL3.out]; exact HD.out.put ⟨hs, hps⟩)
      have hl3 : L3.length ≤ l.length + 1 := by rw [hL3.out]; exact (putV_pts l _).2
      clear ho3 hb3 HG2 HO2 hL3
      go_wp2
      go_roundw
      case rel => exact ⟨n + 1, A3, c3, L3, rfl, by go_num, by omega, by omega, HD3, HO3, HG3⟩
      case measure => simp [intOf]; omega
    · go_wp2
      go_ret
      exact ⟨A, c, l, rfl, by omega, HD.out, HO1.out, HG1.out.2.1, HG1.out.2.2⟩
/-- Any features were drawn. -/
def DAnyF (p : Nat) (w : World) (e : Ending) (w' : World) : Prop :=
  ∃ A c l, e = .returned (.slice A l.length c) ∧ l.length ≤ 16 ∧ SmallD l ∧ (l.length ≤ c ∧ (c : Int) ≤ 9223372036854775807) ∧ SeesD w' w.heap.size A l ∧ Cur w' p ∧ w.grownBy w' (some p)
set_option maxRecDepth 100000 in
set_option maxHeartbeats 4000000 in
theorem l9Any_any (p : Nat) (w : World) (hc : Cur w p) :
    Calls Tryz.prog 93 #[.pointer (some ⟨p, 0, none⟩)] w (DAnyF p w) := by
  have hp := cur_lt hc
  have HC := Lib.hid hc
  clear hc
  go_enter Tryz.func93, Tryz.ntmps93
  go_wp2_with fail
  refine (l9Source_any p _ HC.out).mono ?_
  rintro e w1 ⟨A, c, l, rfl, hl, hD, hO, hc1, hg1⟩
  have HG := Lib.hid ((CurG.start HC.out).next hc1 hg1)
  have HO := Lib.hid hO
  have HD := Lib.hid hD
  have hcap := own_capsF hO
  clear hD hO hc1 hg1 HC
  by_cases h0 : l.length = 0
  · have h0' : (l.length : Int) = 0 := by omega
    go_wp2
    go_ret
    exact ⟨A, c, l, by simp [h0], hl, HD.out, hcap, HO.out.seesD, HG.out.2.1, HG.out.2.2⟩
  have h0' : ¬ (l.length : Int) = 0 := by omega
  go_wp2_with fail
  refine (below_any p (l.length : Int) _ (by omega) (by omega) HG.out.2.1).mono ?_
  rintro e w2 ⟨⟨i0, hi0, hi1, rfl⟩, hc2, hg2⟩
  obtain ⟨i, rfl⟩ : ∃ i : Nat, i0 = i := ⟨i0.toNat, by omega⟩
  have HG2 := Lib.hid (HG.out.next hc2 hg2); have HO2 := Lib.hid (HO.out.keptP hg2 HG.out.1)
  clear hc2 hg2 HG HO
  have hil : i < l.length := by omega
  have hil' : (i : Int) < (l.length : Int) := by omega
  go_wp2_with fail
  refine (below_any p 10 _ (by decide) (by decide) HG2.out.2.1).mono ?_
  rintro e w3 ⟨⟨n, hn0, hn1, rfl⟩, hc3, hg3⟩
  have HG3 := Lib.hid (HG2.out.next hc3 hg3); have HO3 := Lib.hid (HO2.out.keptP hg3 HG2.out.1)
  clear hc3 hg3 HG2 HO2
  go_upto_block 0 with fail
  go_cut [] (fun wx => Hid (∃ l', l'.length = l.length ∧ SmallD l' ∧ SeesD wx w.heap.size A l' ∧ CurG p w wx))
  case first =>
    obtain ⟨f, hf⟩ : ∃ f, l[i]? = some f := ⟨_, List.getElem?_eq_getElem hil⟩
    have hfs := HD.out f (List.mem_of_getElem? hf)
    have HF := Lib.hid hf
    clear hf
    by_cases n0 : n = 0
    · subst n0
      go_wp2_with fail
      refine (ints_made p 4 4 _ [0, 1, 99, 100] 0 100 w3 _ _ rfl (by decide) (by decide) rfl rfl (by decide) HG3.out.2.1).mono ?_
      rintro e w4 ⟨⟨y, -, -, rfl⟩, hc4, hg4⟩
      have HG4 := Lib.hid (HG3.out.next hc4 hg4)
      obtain ⟨xs, ho, hr⟩ := HO3.out.keptP hg4 HG3.out.1
      rw [← hr.1] at ho hr hil
      obtain ⟨g, rfl, hg, -, hR⟩ := ho.row (by omega)
      obtain ⟨x, hx⟩ : ∃ x, xs[i]? = some x := ⟨_, List.getElem?_eq_getElem hil⟩
      have kc := hR.cell elF hx (k := 0) rfl
      have kf := hR.frozen (i * 5 + 0)
      have HSd := Lib.hid (pokeS (f' := (y, f.2)) (x' := (y, x.2)) (u := .int .i64 y) hR hr hg hx HF.out (k := 0) (by decide) rfl (by have h := (hr.2.2 i x f hx HF.out).1; exact ⟨rfl, h.2⟩) rfl rfl)
      have HGd := Lib.hid (HG4.out.put hg (i * 5 + 0) (.int .i64 y))
      simp only [Nat.add_zero] at kc kf HSd HGd
      clear hc4 hg4 ho hr hR hx
      go_wp2
      go_meet
      exact Lib.hid ⟨l.set i (y, f.2), by rw [List.length_set], HD.out.set i (hfs), HSd.out, HGd.out⟩
    by_cases n1 : n = 1
    · subst n1
      go_wp2_with fail
      refine (ints_made p 3 3 _ [-1, 9, 10] (-1) 10 w3 _ _ rfl (by decide) (by decide) rfl rfl (by decide) HG3.out.2.1).mono ?_
      rintro e w4 ⟨⟨y, -, -, rfl⟩, hc4, hg4⟩
      have HG4 := Lib.hid (HG3.out.next hc4 hg4)
      obtain ⟨xs, ho, hr⟩ := HO3.out.keptP hg4 HG3.out.1
      rw [← hr.1] at ho hr hil
      obtain ⟨g, rfl, hg, -, hR⟩ := ho.row (by omega)
      obtain ⟨x, hx⟩ : ∃ x, xs[i]? = some x := ⟨_, List.getElem?_eq_getElem hil⟩
      have kc := hR.cell elF hx (k := 2) rfl
      have kf := hR.frozen (i * 5 + 2)
      have HSd := Lib.hid (pokeS (f' := (f.1, f.2.1, y, f.2.2.2)) (x' := (x.1, x.2.1, y, x.2.2.2)) (u := .int .i64 y) hR hr hg hx HF.out (k := 2) (by decide) rfl (by have h := (hr.2.2 i x f hx HF.out).1; exact ⟨h.1, h.2.1, rfl, h.2.2.2⟩) rfl rfl)
      have HGd := Lib.hid (HG4.out.put hg (i * 5 + 2) (.int .i64 y))
      clear hc4 hg4 ho hr hR hx
      go_wp2
      go_meet
      exact Lib.hid ⟨l.set i (f.1, f.2.1, y, f.2.2.2), by rw [List.length_set], HD.out.set i (hfs), HSd.out, HGd.out⟩
    by_cases n2 : n = 2
    · subst n2
      go_wp2_with fail
      refine (strs_made p 3 3 _ [⟨#[65]⟩, ⟨#[116, 111, 111, 108, 111, 110, 103, 97, 97]⟩, ⟨#[97, 32, 98]⟩] 9 w3 _ _ rfl (by decide) (by decide) rfl rfl (by decide) HG3.out.2.1).mono ?_
      rintro e w4 ⟨⟨y, hy, rfl⟩, hc4, hg4⟩
      have HG4 := Lib.hid (HG3.out.next hc4 hg4)
      obtain ⟨xs, ho, hr⟩ := HO3.out.keptP hg4 HG3.out.1
      rw [← hr.1] at ho hr hil
      obtain ⟨g, rfl, hg, -, hR⟩ := ho.row (by omega)
      obtain ⟨x, hx⟩ : ∃ x, xs[i]? = some x := ⟨_, List.getElem?_eq_getElem hil⟩
      have kc := hR.cell elF hx (k := 3) rfl
      have kf := hR.frozen (i * 5 + 3)
      have HSd := Lib.hid (pokeS (f' := (f.1, f.2.1, f.2.2.1, y, f.2.2.2.2)) (x' := (x.1, x.2.1, x.2.2.1, y, x.2.2.2.2)) (u := .string y) hR hr hg hx HF.out (k := 3) (by decide) rfl (by have h := (hr.2.2 i x f hx HF.out).1; exact ⟨h.1, h.2.1, h.2.2.1, rfl⟩) rfl rfl)
      have HGd := Lib.hid (HG4.out.put hg (i * 5 + 3) (.string y))
      clear hc4 hg4 ho hr hR hx
      go_wp2
      go_meet
      exact Lib.hid ⟨l.set i (f.1, f.2.1, f.2.2.1, y, f.2.2.2.2), by rw [List.length_set], HD.out.set i (⟨by dsimp only; omega, hfs.2⟩), HSd.out, HGd.out⟩
    by_cases n3 : n = 3
    · subst n3
      go_wp2_with fail
      refine (ints_made p 5 5 _ [0, 1, 2, 3, 4] 0 4 w3 _ _ rfl (by decide) (by decide) rfl rfl (by decide) HG3.out.2.1).mono ?_
      rintro e w4 ⟨⟨y, -, -, rfl⟩, hc4, hg4⟩
      have HG4 := Lib.hid (HG3.out.next hc4 hg4)
      obtain ⟨xs, ho, hr⟩ := HO3.out.keptP hg4 HG3.out.1
      rw [← hr.1] at ho hr hil
      obtain ⟨g, rfl, hg, -, hR⟩ := ho.row (by omega)
      obtain ⟨x, hx⟩ : ∃ x, xs[i]? = some x := ⟨_, List.getElem?_eq_getElem hil⟩
      have kc := hR.cell elF hx (k := 1) rfl
      have kf := hR.frozen (i * 5 + 1)
      have HSd := Lib.hid (pokeS (f' := (f.1, y, f.2.2)) (x' := (x.1, y, x.2.2)) (u := .int .i64 y) hR hr hg hx HF.out (k := 1) (by decide) rfl (by have h := (hr.2.2 i x f hx HF.out).1; exact ⟨h.1, rfl, h.2.2⟩) rfl rfl)
      have HGd := Lib.hid (HG4.out.put hg (i * 5 + 1) (.int .i64 y))
      clear hc4 hg4 ho hr hR hx
      go_wp2
      go_meet
      exact Lib.hid ⟨l.set i (f.1, y, f.2.2), by rw [List.length_set], HD.out.set i (hfs), HSd.out, HGd.out⟩
    by_cases n4 : n = 4
    · subst n4
      go_wp2_with fail
      refine (l6Any_any p w3 HG3.out.2.1).mono ?_
      rintro e w4 ⟨A4, c4, ps, rfl, -, ⟨h11, hpc⟩, hs4, hb4, hc4, hg4⟩
      have HG4 := Lib.hid (HG3.out.next hc4 hg4)
      have hlt3 := fun g hg => (HO3.out.lt g hg).2
      obtain ⟨xs, ho, hr⟩ := HO3.out.keptP hg4 HG3.out.1
      rw [← hr.1] at ho hr hil
      obtain ⟨g, rfl, hg, -, hR⟩ := ho.row (by omega)
      obtain ⟨x, hx⟩ : ∃ x, xs[i]? = some x := ⟨_, List.getElem?_eq_getElem hil⟩
      have hg3 : g < w3.heap.size := hlt3 g rfl
      have kc := hR.cell elF hx (k := 4) rfl
      have kf := hR.frozen (i * 5 + 4)
      have hsh := (hr.2.2 i x f hx HF.out).1
      have HSd := Lib.hid (poke (f' := (f.1, f.2.1, f.2.2.1, f.2.2.2.1, ps)) (x' := (x.1, x.2.1, x.2.2.1, x.2.2.2.1, A4, ps.length, c4)) (u := .slice A4 ps.length c4) hR hr hg hx (k := 4) (by decide) rfl ⟨hsh.1, hsh.2.1, hsh.2.2.1, hsh.2.2.2, rfl, hs4.offAll g _ _ (fun a ha => by have := hb4 a ha; omega), hpc⟩ (fun a ha => Nat.le_trans HG3.out.2.2.size (hb4 a ha)))
      have HGd := Lib.hid (HG4.out.put hg (i * 5 + 4) (.slice A4 ps.length c4))
      clear hc4 hg4 ho hr hR hx hs4 hsh
      go_wp2
      go_meet
      exact Lib.hid ⟨l.set i (f.1, f.2.1, f.2.2.1, f.2.2.2.1, ps), by rw [List.length_set], HD.out.set i ⟨hfs.1, h11⟩, HSd.out, HGd.out⟩
    go_wp2
    go_meet
    exact Lib.hid ⟨l, rfl, HD.out, HO3.out.seesD, HG3.out⟩
  case rest =>
  obtain ⟨l', hl', hD', hS', hG'⟩ := hcut.out
  have HS' := Lib.hid hS'; have HG' := Lib.hid hG'
  clear hcut hS' hG'
  rw [← hl']
  go_wp2
  go_ret
  exact ⟨A, c, l', rfl, by omega, hD', by omega, HS'.out, HG'.out.2.1, HG'.out.2.2⟩
set_option maxRecDepth 100000 in
set_option maxHeartbeats 4000000 in
theorem l9One_any (p : Nat) (w : World) (hc : Cur w p) :
    Calls Tryz.prog 55 #[.pointer (some ⟨p, 0, none⟩)] w (DFt p w) := by
  have hp := cur_lt hc
  have HG := Lib.hid ((CurG.start hc).al (.cells (FtC 0 0 0 ⟨#[]⟩ none 0 0) 41))
  have HX := Lib.hid (OneV.new (m := 0) w (Nat.zero_le _) (FtC 0 0 0 ⟨#[]⟩ none 0 0) 41)
  have hpw : ¬ p = w.heap.size := by omega
  have hsz : (w.alloc (.cells (FtC 0 0 0 ⟨#[]⟩ none 0 0) 41)).heap.size = w.heap.size + 1 := by simp
  have HSZ := Lib.hid hsz
  clear hc hsz
  go_enter Tryz.func55, Tryz.ntmps55
  go_wp2_with fail
  refine (l9Any_any p _ HG.out.2.1).mono ?_
  rintro e w1 ⟨A, c, l, rfl, hl, hD, hcap, hS, hc1, hg1⟩
  have HG1 := Lib.hid (HG.out.next hc1 hg1); have HX1 := Lib.hid (HX.out.nextG hg1 hpw)
  have HS := Lib.hid hS; have HD := Lib.hid hD
  clear hc1 hg1 hS hD HG HX
  obtain ⟨q0, q1, q2, q3, q4⟩ := HX1.out.five
  have f0 := HX1.out.frozen 0; have f1 := HX1.out.frozen 1; have f2 := HX1.out.frozen 2; have f3 := HX1.out.frozen 3; have f4 := HX1.out.frozen 4
  by_cases h0 : l.length = 0
  · have h0' : (l.length : Int) = 0 := by omega
    go_wp2
    refine bodyPost_ret (v := FtV 0 0 0 ⟨#[]⟩ none 0 0) (by simp [results, Tryz.results55, go_sem, q0, q1, q2, q3, q4]) rfl ?_
    have h := (((((HG1.out.put (Nat.le_refl w.heap.size) 0 (.int .i64 0)).put (Nat.le_refl w.heap.size) 1 (.int .i64 0)).put (Nat.le_refl w.heap.size) 2 (.int .i64 0)).put (Nat.le_refl w.heap.size) 3 (.string ⟨#[]⟩)).put (Nat.le_refl w.heap.size) 4 (.slice none 0 0))
    exact ⟨0, 0, 0, ⟨#[]⟩, none, 0, [], rfl, by decide, by simp, by simp, SeesE.nil, (fun x hx => by cases hx), h.2.1, h.2.2⟩
  · have h0' : ¬ (l.length : Int) = 0 := by omega
    have hpos : (0 : Int) < (l.length : Int) := by omega
    obtain ⟨⟨a, k, r, s, ps⟩, hf⟩ : ∃ f, l[0]? = some f := ⟨_, List.getElem?_eq_getElem (by omega)⟩
    have hfs := HD.out _ (List.mem_of_getElem? hf)
    dsimp only at hfs
    obtain ⟨b, off, A', c', rfl, hbl, hss, hcp, hb, hA', k0, k1, k2, k3, k4⟩ := HS.out.at_ hf
    rw [HSZ.out] at hb hA'
    rw [Nat.zero_mul, Nat.add_zero] at k0 k1 k2 k3 k4
    have HSS := Lib.hid hss
    have hbw : ¬ b = w.heap.size := by omega
    clear hf hss
    go_wp2
    refine bodyPost_ret (v := FtV a k r s A' ps.length c') (by simp [results, Tryz.results55, go_sem, q0, q1, q2, q3, q4]) rfl ?_
    have h := (((((HG1.out.put (Nat.le_refl w.heap.size) 0 (.int .i64 a)).put (Nat.le_refl w.heap.size) 1 (.int .i64 k)).put (Nat.le_refl w.heap.size) 2 (.int .i64 r)).put (Nat.le_refl w.heap.size) 3 (.string s)).put (Nat.le_refl w.heap.size) 4 (.slice A' ps.length c'))
    have hne0 : ∀ x, A' = some x → x.block ≠ w.heap.size := fun x hx => by have := hA' x hx; omega
    exact ⟨a, k, r, s, A', c', ps, rfl, hfs.1, hfs.2, hcp, SeesE.offAll (SeesE.offAll (SeesE.offAll (SeesE.offAll (SeesE.offAll HSS.out _ 0 _ hne0) _ 1 _ hne0) _ 2 _ hne0) _ 3 _ hne0) _ 4 _ hne0, fun x hx => by have := hA' x hx; omega, h.2.1, h.2.2⟩
end Go.Proofs.YtbnjaaegbmhopaaGreatDoor
end
section
/- Draws of chapter 10: two features, a source. -/
namespace Go.Proofs.YtbnjaaegbmhopaaGreatDoor
open Go.ChangeShapes Go.WideShapes Go.ChangeAt Go.RowKit
set_option linter.unusedVariables false

/-- Two features were drawn. -/
def GotFeats (w : World) (e : Ending) (w' : World) : Prop :=
  ∃ (a k r : Int) (s : ByteArray) (A : Option Addr) (c : Nat) (ps : List (Int × Int)) (a' k' r' : Int) (s' : ByteArray) (A' : Option Addr) (c' : Nat) (ps' : List (Int × Int)), e = .returned (.tuple #[FtV a k r s A ps.length c, FtV a' k' r' s' A' ps'.length c']) ∧
    (s.size ≤ 100 ∧ ps.length ≤ 11 ∧ ps.length ≤ c ∧ (c : Int) ≤ 9223372036854775807 ∧ SeesE 2 encPoint w' w'.heap.size A ps) ∧ (s'.size ≤ 100 ∧ ps'.length ≤ 11 ∧ ps'.length ≤ c' ∧ (c' : Int) ≤ 9223372036854775807 ∧ SeesE 2 encPoint w' w'.heap.size A' ps') ∧ Below w.heap.size w w'
/-- Features were drawn. -/
def GotAnyF (w : World) (e : Ending) (w' : World) : Prop :=
  ∃ A c l, e = .returned (.slice A l.length c) ∧ l.length ≤ 16 ∧ SmallD l ∧ (l.length ≤ c ∧ (c : Int) ≤ 9223372036854775807) ∧ SeesF w' w'.heap.size A l ∧ Below w.heap.size w w'
theorem Vars.fr5 {w0 w : World} {l : List (Array Value)} {cs : Array Value} (h : Vars w0 w l) (b j : Nat) (hb : b = w0.heap.size + j) (hj : l[j]? = some cs) : w.frozen? ⟨b, 0, none⟩ = false ∧ w.frozen? ⟨b, 1, none⟩ = false ∧ w.frozen? ⟨b, 2, none⟩ = false ∧ w.frozen? ⟨b, 3, none⟩ = false ∧ w.frozen? ⟨b, 4, none⟩ = false :=
  ⟨h.frozen _ j 0 hb hj, h.frozen _ j 1 hb hj, h.frozen _ j 2 hb hj, h.frozen _ j 3 hb hj, h.frozen _ j 4 hb hj⟩
theorem Vars.set5 {w0 w : World} {l : List (Array Value)} {cs : Array Value} (h : Vars w0 w l) (b j : Nat) (hb : b = w0.heap.size + j) (hj : l[j]? = some cs) (v0 v1 v2 v3 v4 : Value) :
    Vars w0 (((((w.setCell ⟨b, 0, none⟩ v0).setCell ⟨b, 1, none⟩ v1).setCell ⟨b, 2, none⟩ v2).setCell ⟨b, 3, none⟩ v3).setCell ⟨b, 4, none⟩ v4) (l.set j (((((cs.setIfInBounds 0 v0).setIfInBounds 1 v1).setIfInBounds 2 v2).setIfInBounds 3 v3).setIfInBounds 4 v4)) := by
  have hl := (List.getElem?_eq_some_iff.1 hj).1
  have h1 := h.setAt b j 0 hb hj v0
  have h2 := h1.setAt b j 1 hb (List.getElem?_set_self hl) v1
  have h3 := h2.setAt b j 2 hb (List.getElem?_set_self (by simpa using hl)) v2
  have h4 := h3.setAt b j 3 hb (List.getElem?_set_self (by simpa using hl)) v3
  have h5 := h4.setAt b j 4 hb (List.getElem?_set_self (by simpa using hl)) v4
  simpa only [List.set_set] using h5
theorem OneV.off5 {m b c : Nat} {w : World} {cs : Array Value} (h : OneV m w b cs) (hn : ¬ b = c) (v0 v1 v2 v3 v4 : Value) : OneV m (((((w.setCell ⟨c, 0, none⟩ v0).setCell ⟨c, 1, none⟩ v1).setCell ⟨c, 2, none⟩ v2).setCell ⟨c, 3, none⟩ v3).setCell ⟨c, 4, none⟩ v4) b cs :=
  ((((h.other hn 0 v0).other hn 1 v1).other hn 2 v2).other hn 3 v3).other hn 4 v4
theorem SeesE.off5 {α : Type} {n : Nat} {enc : α → List Value} {w : World} {A : Option Addr} {l : List α} (h : SeesE n enc w w.heap.size A l) (b : Nat) (v0 v1 v2 v3 v4 : Value) (hne : ∀ a, A = some a → a.block ≠ b) :
    SeesE n enc (((((w.setCell ⟨b, 0, none⟩ v0).setCell ⟨b, 1, none⟩ v1).setCell ⟨b, 2, none⟩ v2).setCell ⟨b, 3, none⟩ v3).setCell ⟨b, 4, none⟩ v4) (((((w.setCell ⟨b, 0, none⟩ v0).setCell ⟨b, 1, none⟩ v1).setCell ⟨b, 2, none⟩ v2).setCell ⟨b, 3, none⟩ v3).setCell ⟨b, 4, none⟩ v4).heap.size A l :=
  SeesE.offAll (SeesE.offAll (SeesE.offAll (SeesE.offAll (SeesE.offAll h _ 0 _ hne) _ 1 _ hne) _ 2 _ hne) _ 3 _ hne) _ 4 _ hne
set_option maxRecDepth 100000 in
set_option maxHeartbeats 8000000 in
theorem drawFeaturesMeet_any (A : Option Addr) (len cap B : Nat) (w : World) (hc : Code w B A len) :
    Calls Tryz.prog 18 #[.slice A len cap] w (GotFeats w) := by
  have HV := Lib.hid (Vars.of2 w (FtC 0 0 0 ⟨#[]⟩ none 0 0) (FtC 0 0 0 ⟨#[]⟩ none 0 0) 41 41)
  have HC := Lib.hid (code_below hc (HV.out.1.mono hc.2.1))
  clear hc
  go_enter Tryz.func18, Tryz.ntmps18
  go_wp2_with fail
  refine (new_any A len cap B _ HC.out).mono ?_
  rintro e w1 ⟨p, hp, rfl, hc1, hb1⟩
  have hp2 : w.heap.size + 2 ≤ p := Nat.le_trans HV.out.2.1 hp
  have HV1 := Lib.hid (HV.out.next hb1)
  have hpl := cur_lt hc1
  have hz1 : w.heap.size + 2 ≤ w1.heap.size := HV1.out.2.1
  clear HV hb1 hp HC
  go_wp2_with fail
  refine (l9One_any p _ hc1).mono ?_
  rintro e w2 ⟨a, k, r, s, A1, c, ps, rfl, hs, hps, hcp, hsp, hlo, hc2, hg2⟩
  have hz2 : w1.heap.size ≤ w2.heap.size := hg2.size
  have hpb : ¬ p = w2.heap.size := by have := cur_lt hc2; omega
  have hbw : ¬ w2.heap.size = w.heap.size := by omega
  have hbw1 : ¬ w2.heap.size = w.heap.size + 1 := by omega
  have HV2 := Lib.hid ((HV1.out.nextG hg2 (by simpa using hp2)).al (.cells (FtC a k r s A1 ps.length c) 41))
  have HX2 := Lib.hid (OneV.new (m := 0) w2 (Nat.zero_le _) (FtC a k r s A1 ps.length c) 41)
  have HS2 := Lib.hid (hsp.belowAll ((Below.refl _ _).alloc (Nat.le_refl _) (.cells (FtC a k r s A1 ps.length c) 41)))
  have HC2 := Lib.hid (cur_alloc hc2 (.cells (FtC a k r s A1 ps.length c) 41))
  have HL := Lib.hid hlo
  clear hc1 hg2 hc2 hsp hlo HV1
  obtain ⟨b, hb⟩ : ∃ b, w2.heap.size = b := ⟨_, rfl⟩
  rw [hb] at hpb hbw hbw1 HX2
  go_upto_region 3 with fail
  generalize w2.alloc (.cells (FtC a k r s A1 ps.length c) 41) = w3 at HV2 HX2 HS2 HC2 ⊢
  have hlo1 : ∀ x, A1 = some x → p < x.block ∧ ¬ x.block = w.heap.size ∧ ¬ x.block = w.heap.size + 1 := fun x hx => by have := HL.out x hx; omega
  clear hb HL hz2
  have HQ : Hid (∀ W, OneV 0 W b (FtC a k r s A1 ps.length c) → (W.cell? ⟨b, 0, none⟩ = some (.int .i64 a) ∧ W.cell? ⟨b, 1, none⟩ = some (.int .i64 k) ∧ W.cell? ⟨b, 2, none⟩ = some (.int .i64 r) ∧ W.cell? ⟨b, 3, none⟩ = some (.string s) ∧ W.cell? ⟨b, 4, none⟩ = some (.slice A1 ps.length c))) := Lib.hid fun W h => h.five
  have HQ0 := Lib.hid (HQ.out _ HX2.out); have HQd := Lib.hid (HQ.out _ HX2.out.drew)
  have HVd := Lib.hid HV2.out.drew; have HXd := Lib.hid HX2.out.drew; have HCd := Lib.hid (cur_drew HC2.out); have HSd := Lib.hid HS2.out.drew
  go_region_held3 (fun w' => w'.cell? ⟨b, 0, none⟩ = some (.int .i64 a) ∧ w'.cell? ⟨b, 1, none⟩ = some (.int .i64 k) ∧ w'.cell? ⟨b, 2, none⟩ = some (.int .i64 r) ∧ w'.cell? ⟨b, 3, none⟩ = some (.string s) ∧ w'.cell? ⟨b, 4, none⟩ = some (.slice A1 ps.length c))
    (first | with_reducible exact HQ0.out | with_reducible exact HQd.out | with_reducible exact hQ1.out | with_reducible exact hQ2.out | with_reducible exact hQ3.out | (refine ⟨?_, ?_, ?_, ?_, ?_⟩ <;> simp [go_sem, x0, x1, x2, x3, x4])) (first
    | (go_at_call 55; refine (l9One_any p _ HCd.out).mono ?_; rintro e w9 ⟨a', k', r', s', A2, c', ps', rfl, hs', hps', hcp', hsp', hlo', hc9, hg9⟩; have HV9 := Lib.hid (HVd.out.nextG hg9 (by simpa using hp2)); have HX9 := Lib.hid (HXd.out.nextG hg9 hpb); have HS9 := Lib.hid (HSd.out.keptL hg9 (Nat.lt_succ_self p) (fun x hx => (hlo1 x hx).1)); have HS9' := Lib.hid hsp'; have HL9 := Lib.hid hlo'; have hQ1 := Lib.hid (HQ.out _ HX9.out); obtain ⟨x0, x1, x2, x3, x4⟩ := HX9.out.five; obtain ⟨q0, q1, q2, q3, q4⟩ := HV9.out.fiveAt w.heap.size 0 rfl rfl; obtain ⟨q5, q6, q7, q8, q9⟩ := HV9.out.fiveAt (w.heap.size + 1) 1 rfl rfl; obtain ⟨f0, f1, f2, f3, f4⟩ := HV9.out.fr5 w.heap.size 0 rfl rfl; obtain ⟨f5, f6, f7, f8, f9⟩ := HV9.out.fr5 (w.heap.size + 1) 1 rfl rfl) | fail)
  all_goals
    go_wp2
    refine bodyPost_ret (v := .tuple #[FtV a k r s A1 ps.length c, FtV a' k' r' s' A2 ps'.length c']) (by simp [results, Tryz.results18, go_sem, q0, q1, q2, q3, q4, q5, q6, q7, q8, q9]) rfl ?_
    have hz3 : w.heap.size + 2 ≤ w3.drew.heap.size := HVd.out.2.1
    have hVe := (HV9.out.set5 w.heap.size 0 rfl rfl (.int .i64 a) (.int .i64 k) (.int .i64 r) (.string s) (.slice A1 ps.length c)).set5 (w.heap.size + 1) 1 rfl rfl (.int .i64 a') (.int .i64 k') (.int .i64 r') (.string s') (.slice A2 ps'.length c')
    exact ⟨a, k, r, s, A1, c, ps, a', k', r', s', A2, c', ps', rfl, ⟨hs, hps, hcp.1, hcp.2, (HS9.out.off5 _ _ _ _ _ _ fun x hx => (hlo1 x hx).2.1).off5 _ _ _ _ _ _ fun x hx => (hlo1 x hx).2.2⟩,
      ⟨hs', hps', hcp'.1, hcp'.2, (HS9'.out.off5 _ _ _ _ _ _ fun x hx => by have := HL9.out x hx; omega).off5 _ _ _ _ _ _ fun x hx => by have := HL9.out x hx; omega⟩, hVe.1⟩
set_option maxRecDepth 100000 in
theorem drawIsSource_any (A : Option Addr) (len cap B : Nat) (w : World) (hc : Code w B A len) :
    Calls Tryz.prog 57 #[.slice A len cap] w (GotAnyF w) := by
  have HC := Lib.hid hc
  clear hc
  go_enter Tryz.func57, Tryz.ntmps57
  go_wp2_with fail
  refine (new_any A len cap B _ HC.out).mono ?_
  rintro e w1 ⟨p, hp, rfl, hc1, hb1⟩
  go_wp2_with fail
  refine (l9Any_any p _ hc1).mono ?_
  rintro e w2 ⟨A2, c2, l, rfl, hl, hD, hcap, hS, hc2, hg2⟩
  go_wp2
  go_ret
  exact ⟨A2, c2, l, rfl, hl, hD, hcap, hS.sees, below_grown hb1 hg2 hb1.size hp⟩
theorem drawMeetsOf_any (A : Option Addr) (len cap B : Nat) (w : World) (hc : Code w B A len) :
    Calls Tryz.prog 20 #[.slice A len cap] w (GotAnyF w) := by
  go_enter Tryz.func20, Tryz.ntmps20
  go_wp2_with fail
  refine (drawIsSource_any A len cap B w hc).mono ?_
  rintro e w1 ⟨A2, c2, l, rfl, h⟩
  go_wp2
  go_ret
  exact ⟨A2, c2, l, rfl, h⟩
end Go.Proofs.YtbnjaaegbmhopaaGreatDoor
end
section
/- The parts of a feature, and how two features meet: values. -/
namespace Go.Proofs.YtbnjaaegbmhopaaGreatDoor
open Go.ChangeShapes Go.WideShapes Go.ChangeAt Go.RowKit
set_option linter.unusedVariables false

abbrev Sg := Int × Int × Int × Int
/-- The segments of a feature. -/
def partsV (f : Feat) : List Sg := if featV f = true then (if f.2.1 = 2 then sgV f.2.2.2.2 else if f.2.1 = 3 then rsV f.2.2.2.2 else []) else []
theorem parts_no {f : Feat} (h : featV f = false) : partsV f = [] := by unfold partsV; rw [h]; rfl
theorem parts_2 {a r : Int} {s : ByteArray} {ps : List (Int × Int)} (h : featV (a, 2, r, s, ps) = true) : partsV (a, 2, r, s, ps) = sgV ps := by unfold partsV; rw [if_pos h]; rfl
theorem parts_3 {a r : Int} {s : ByteArray} {ps : List (Int × Int)} (h : featV (a, 3, r, s, ps) = true) : partsV (a, 3, r, s, ps) = rsV ps := by unfold partsV; rw [if_pos h]; rfl
theorem parts_0 {a k r : Int} {s : ByteArray} {ps : List (Int × Int)} (h2 : ¬ k = 2) (h3 : ¬ k = 3) : partsV (a, k, r, s, ps) = [] := by
  unfold partsV; simp [h2, h3]
theorem parts_len (f : Feat) : (partsV f).length ≤ 10 := by
  unfold partsV
  split
  · split
    · have := sgV_len f.2.2.2.2; omega
    · split
      · unfold rsV
        split
        · next h => rw [rgS_len]; exact ((isRg_iff _).1 h).1.2
        · simp
      · simp
  · simp
/-- How two features meet. -/
def meetF (f g : Feat) : Int := mtV (partsV f) (partsV g)
theorem meetF_comm (f g : Feat) : meetF g f = meetF f g := mtV_comm _ _
theorem meetF_bd (f g : Feat) : meetF f g ≤ 3 := mtV_bd _ _
end Go.Proofs.YtbnjaaegbmhopaaGreatDoor
end
section
/- All meetings of a source: values; append of a meeting as a step of a drawn region. -/
namespace Go.Proofs.YtbnjaaegbmhopaaGreatDoor
open Go.ChangeShapes Go.WideShapes Go.ChangeAt Go.RowKit
set_option linter.unusedVariables false

/-- The meeting of the i-th and the k-th feature, if any. -/
def mOne (l : List Feat) (i k : Nat) : List Mt3 := match l[i]?, l[k]? with
  | some f, some g => if meetF f g = 0 then [] else [(f.1, g.1, meetF f g)]
  | _, _ => []
/-- Those of the i-th one with d others behind it. -/
def mRow (l : List Feat) (i d : Nat) : List Mt3 := (List.range d).flatMap fun t => mOne l i (i + 1 + t)
/-- Those of the first n with all behind them. -/
def mAll (l : List Feat) (n : Nat) : List Mt3 := (List.range n).flatMap fun i => mRow l i (l.length - (i + 1))
def meetsV (l : List Feat) : List Mt3 := if srcV l = true then mAll l l.length else []
theorem mRow_zero (l : List Feat) (i : Nat) : mRow l i 0 = [] := rfl
theorem mAll_zero (l : List Feat) : mAll l 0 = [] := rfl
theorem mRow_step (l : List Feat) (i d : Nat) : mRow l i (d + 1) = mRow l i d ++ mOne l i (i + 1 + d) := by
  simp [mRow, List.range_succ, List.flatMap_append]
theorem mAll_step (l : List Feat) (n : Nat) : mAll l (n + 1) = mAll l n ++ mRow l n (l.length - (n + 1)) := by
  simp [mAll, List.range_succ, List.flatMap_append]
theorem mOne_no {l : List Feat} {i k : Nat} {f g : Feat} (hf : l[i]? = some f) (hg : l[k]? = some g) (h : meetF f g = 0) : mOne l i k = [] := by simp [mOne, hf, hg, h]
theorem mOne_yes {l : List Feat} {i k : Nat} {f g : Feat} (hf : l[i]? = some f) (hg : l[k]? = some g) (h : ¬ meetF f g = 0) : mOne l i k = [(f.1, g.1, meetF f g)] := by simp [mOne, hf, hg, h]
theorem mOne_len (l : List Feat) (i k : Nat) : (mOne l i k).length ≤ 1 := by
  unfold mOne
  split
  · split <;> simp
  · simp
theorem flat_len {α : Type} (f : Nat → List α) (m : Nat) (h : ∀ i, (f i).length ≤ m) : ∀ n, ((List.range n).flatMap f).length ≤ n * m
  | 0 => by simp
  | n + 1 => by
    have := flat_len f m h n
    have := h n
    rw [List.range_succ, List.flatMap_append, List.length_append, Nat.add_mul, Nat.one_mul]
    simp only [List.flatMap_cons, List.flatMap_nil, List.append_nil]
    omega
theorem mRow_len (l : List Feat) (i d : Nat) : (mRow l i d).length ≤ d := by
  have := flat_len (fun t => mOne l i (i + 1 + t)) 1 (fun t => mOne_len _ _ _) d
  simpa [mRow] using this
theorem mAll_len (l : List Feat) (n : Nat) : (mAll l n).length ≤ n * l.length :=
  flat_len _ _ (fun i => Nat.le_trans (mRow_len _ _ _) (Nat.sub_le _ _)) n
theorem meets_yes {l : List Feat} (h : srcV l = true) : meetsV l = mAll l l.length := by unfold meetsV; rw [if_pos h]
theorem meets_no {l : List Feat} (h : srcV l = false) : meetsV l = [] := by unfold meetsV; rw [h]; rfl
theorem meets_len (l : List Feat) : (meetsV l).length ≤ 256 := by
  cases h : srcV l
  · rw [meets_no h]; simp
  · rw [meets_yes h]
    have h16 := src_len h
    have h1 := mAll_len l l.length
    have h2 : l.length * l.length ≤ 16 * 16 := Nat.mul_le_mul h16 h16
    omega
theorem mAll_256 {l : List Feat} (h : l.length ≤ 16) {n d : Nat} (hn : n ≤ l.length) (hd : d ≤ l.length) : (mAll l n ++ mRow l n d).length ≤ 1000 := by
  have h1 := mAll_len l n
  have h2 : n * l.length ≤ 16 * 16 := Nat.mul_le_mul (by omega) h
  have h3 := mRow_len l n d
  rw [List.length_append]
  omega
/-- A meeting's cells. -/
abbrev mC (x : Mt3) : Array Value := #[.int .i64 x.1, .int .i64 x.2.1, .int .i64 x.2.2]
theorem stepMt (w : World) {o : Oper} {a : Act} {K : Act → World → Prop} {Q : Exit → Act → World → Prop} (s x : Operand)
    (ho : o.op = .call { callee := .builtin .append, args := #[s, x], argTypes := #[47, 47] })
    (base : Nat) (v : Value) (l : List Mt3) (hv : a.eval s = v) (hown : OwnE 3 encMeet w base 93 v l)
    (B : Nat) (A : Option Addr) (m c : Nat) (l2 : List Mt3) (hx : a.eval x = .slice A m c) (hm : m = l2.length) (hs : SeesE 3 encMeet w B A l2) (h63 : l.length + l2.length ≤ 1099511627776) (hbase : base ≤ w.heap.size)
    (h : ∀ A' c' L w', Hid (L = l ++ l2) → L.length ≤ l.length + l2.length → l.length + l2.length ≤ L.length → OwnE 3 encMeet w' base 93 (.slice A' L.length c') L → Below base w w' → K (a.put o.dst (.slice A' L.length c')) w') :
    o.wp Tryz.prog a w K Q := by
  obtain ⟨i, hi, hz, h1, h2⟩ := info_parts infoMeet
  exact wp_appE w elMeet s x _ ho _ i _ 24 Tryz.underlying47 hi hz h1 h2 rfl base v l hv hown B A m c l2 hx hm hs h63 (by decide) hbase h
end Go.Proofs.YtbnjaaegbmhopaaGreatDoor
end
section
/- Arrays as variables: a whole row out of and into a block; the table of meetings. -/
namespace Go.Proofs.YtbnjaaegbmhopaaGreatDoor
open Go.ChangeShapes Go.WideShapes Go.ChangeAt Go.RowKit
set_option linter.unusedVariables false

section
variable {P : Program}
theorem storeCells_row (w : World) (g : Nat) (t ty : TypeId) (old cells : Array Value) (hg : w.heap[g]? = some (.cells old t (0, 0))) (hi : (P.info? ty).map (·.size) = some cells.size)
    (ho : old.size = cells.size) (h1 : cells.all (·.oneCell') = true) : (storeCells ⟨g, 0, none⟩ cells.toList 0).run P w = .ok () (w.setRow g cells) := by
  have := run_storeVar_row (P := P) w g t ty old cells hg hi ho h1
  cases hq : P.info? ty with
  | none => simp [hq] at hi
  | some i =>
    have hs : cells.size = i.size := by simp [hq] at hi; omega
    simpa [storeVar, sizeOf, typeInfo, hq, Value.cells, hs] using this
theorem loadCells_row (w : World) (g n : Nat) (t : TypeId) (cs : Array Value) (hg : w.heap[g]? = some (.cells cs t (0, 0))) (hn : cs.size = n) :
    (loadCellsFrom ⟨g, 0, none⟩ 0 n #[]).run P w = .ok cs w := by
  subst hn
  have := run_loadCells_list (P := P) w ⟨g, 0, none⟩ cs.toList (fun j v hv => by
    rw [add_none, Nat.zero_add, cell_of_row _ _ j cs t (0, 0) hg]
    simpa using hv)
  simpa [loadCells] using this
end
theorem setRow_block {w : World} {g : Nat} {t : TypeId} {old cells : Array Value} (hg : w.heap[g]? = some (.cells old t (0, 0))) : (w.setRow g cells).heap[g]? = some (.cells cells t (0, 0)) := by
  simp [World.setRow, Array.getElem?_modify, hg]
theorem setRow_other (w : World) {g k : Nat} (h : ¬ g = k) (cells : Array Value) : (w.setRow g cells).heap[k]? = w.heap[k]? := by
  simp [World.setRow, Array.getElem?_modify, h]
theorem Below.setRow {B g : Nat} {a w : World} (h : Below B a w) (hg : B ≤ g) (cells : Array Value) : Below B a (w.setRow g cells) :=
  ⟨h.os, h.tape, h.output, by rw [size_setRow]; exact h.size, fun k hk => by rw [setRow_other w (by omega)]; exact h.block k hk⟩
/-- A whole variable is written. -/
theorem Vars.setRowAt {w0 w : World} {l : List (Array Value)} {cs : Array Value} (h : Vars w0 w l) (b j : Nat) (hb : b = w0.heap.size + j) (hj : l[j]? = some cs) (cells : Array Value) : Vars w0 (w.setRow b cells) (l.set j cells) := by
  subst hb
  have hjl : j < l.length := (List.getElem?_eq_some_iff.1 hj).1
  refine ⟨Below.setRow h.1 (by omega) cells, Nat.le_trans (by simpa using h.2.1) (by rw [size_setRow]; exact Nat.le_refl _), fun k c hk => ?_⟩
  by_cases e : j = k
  · subst e
    rw [List.getElem?_set_self hjl] at hk
    simp only [Option.some.injEq] at hk
    subst hk
    obtain ⟨T, h3⟩ := h.2.2 j cs hj
    exact ⟨T, setRow_block h3⟩
  · rw [List.getElem?_set_ne e] at hk
    obtain ⟨T, h3⟩ := h.2.2 k c hk
    exact ⟨T, (setRow_other w (by omega) cells).trans h3⟩
/-- A row that the call owns, when a cell ahead of it is written. -/
theorem OwnE.setLow {α : Type} {n : Nat} {enc : α → List Value} {w : World} {lo b i : Nat} {e : TypeId} {v : Value} {L : List α} (h : OwnE n enc w lo e v L) (hb : b < lo) (u : Value) : OwnE n enc (w.setCell ⟨b, i, none⟩ u) lo e v L := by
  refine ⟨h.1, ?_⟩
  rcases h.2 with hn | ⟨g, cap, cur, rfl, hB, hg, rest⟩
  · exact .inl hn
  · exact .inr ⟨g, cap, cur, rfl, hB, (Below.heap_setCell _ _ _ _ (by simp; omega)).trans hg, rest⟩
/-- The table of parts: the first J are laid. -/
def PartsAt (l : List Feat) (w : World) (lo J : Nat) (cs : Array Value) : Prop := cs.size = 16 ∧ ∀ (j : Nat) f, j < J → l[j]? = some f →
  ∃ A c L, L = partsV f ∧ cs[j]? = some (.slice A L.length c) ∧ OwnE 4 encSegment w lo 78 (.slice A L.length c) L
section
variable {l : List Feat} {w w' : World} {lo J : Nat} {cs : Array Value}
theorem PartsAt.zero (h : cs.size = 16) : PartsAt l w lo 0 cs := ⟨h, fun j f hj => absurd hj (Nat.not_lt_zero _)⟩
theorem PartsAt.all (h : PartsAt l w lo J cs) (hb : Below w.heap.size w w') : PartsAt l w' lo J cs := ⟨h.1, fun j f hj hf => by
  obtain ⟨A, c, L, h1, h2, h3⟩ := h.2 j f hj hf
  exact ⟨A, c, L, h1, h2, h3.belowAll hb⟩⟩
theorem PartsAt.low (h : PartsAt l w lo J cs) {b i : Nat} (hb : b < lo) (u : Value) : PartsAt l (w.setCell ⟨b, i, none⟩ u) lo J cs := ⟨h.1, fun j f hj hf => by
  obtain ⟨A, c, L, h1, h2, h3⟩ := h.2 j f hj hf
  exact ⟨A, c, L, h1, h2, h3.setLow hb u⟩⟩
theorem PartsAt.put (h : PartsAt l w lo J cs) (hJ : J < 16) {A : Option Addr} {c : Nat} {L : List Sg} (ho : OwnE 4 encSegment w lo 78 (.slice A L.length c) L) (hL : ∀ f, l[J]? = some f → L = partsV f) : PartsAt l w lo (J + 1) (cs.setIfInBounds J (.slice A L.length c)) := by
  refine ⟨by simpa using h.1, fun j f hj hf => ?_⟩
  by_cases e : j = J
  · subst e
    exact ⟨A, c, L, hL f hf, by rw [Array.getElem?_setIfInBounds_self_of_lt (by rw [h.1]; exact hJ)], ho⟩
  · obtain ⟨A', c', L', h1, h2, h3⟩ := h.2 j f (by omega) hf
    exact ⟨A', c', L', h1, by rw [Array.getElem?_setIfInBounds_ne (Ne.symm e)]; exact h2, h3⟩
theorem PartsAt.has (h : PartsAt l w lo J cs) {j : Nat} (hj : j < 16) : ∃ u, cs[j]? = some u := ⟨_, Array.getElem?_eq_getElem (by rw [h.1]; exact hj)⟩
end
/-- The table of meetings: all pairs with the second one ahead of J, and those with J itself whose first one is ahead of K. -/
def MatAt (l : List Feat) (J K : Nat) (cs : Array Value) : Prop := cs.size = 256 ∧ (∀ i : Nat, i < 256 → ∃ x : Int, cs[i]? = some (.int .i64 x)) ∧
  ∀ (i j : Nat) f g, i < j → (j < J ∨ (j = J ∧ i < K)) → l[i]? = some f → l[j]? = some g → cs[i * 16 + j]? = some (.int .i64 (meetF f g))
section
variable {l : List Feat} {J K : Nat} {cs : Array Value}
theorem MatAt.zero (h : cs.size = 256) (h0 : ∀ i : Nat, i < 256 → ∃ x : Int, cs[i]? = some (.int .i64 x)) : MatAt l 0 0 cs := ⟨h, h0, fun i j f g hij hj => by omega⟩
theorem MatAt.next (h : MatAt l J J cs) : MatAt l (J + 1) 0 cs := ⟨h.1, h.2.1, fun i j f g hij hj => h.2.2 i j f g hij (by omega)⟩
theorem MatAt.put (hl : l.length ≤ 16) (h : MatAt l J K cs) (hJ : J < l.length) (hK : K < J) {v : Int} (hv : ∀ f g, l[K]? = some f → l[J]? = some g → v = meetF f g) : MatAt l J (K + 1) (cs.setIfInBounds (K * 16 + J) (.int .i64 v)) := by
  have hin : K * 16 + J < cs.size := by rw [h.1]; omega
  refine ⟨by simpa using h.1, fun i hi => ?_, fun i j f g hij hj hf hg => ?_⟩
  · by_cases e : K * 16 + J = i
    · subst e; exact ⟨v, Array.getElem?_setIfInBounds_self_of_lt hin⟩
    · rw [Array.getElem?_setIfInBounds_ne e]; exact h.2.1 i hi
  · have h16 : j < 16 := by have := (List.getElem?_eq_some_iff.1 hg).1; omega
    by_cases e : K * 16 + J = i * 16 + j
    · obtain rfl : K = i := by omega
      obtain rfl : J = j := by omega
      rw [Array.getElem?_setIfInBounds_self_of_lt hin, hv f g hf hg]
    · rw [Array.getElem?_setIfInBounds_ne e]
      refine h.2.2 i j f g hij ?_ hf hg
      rcases hj with hj | ⟨hj, hk⟩
      · exact .inl hj
      · subst hj
        exact .inr ⟨rfl, by omega⟩
theorem MatAt.one (h : MatAt l J K cs) : cs.all (·.oneCell') = true := by
  rw [Array.all_eq_true]
  intro i hi
  obtain ⟨x, hx⟩ := h.2.1 i (by rw [h.1] at hi; exact hi)
  rw [Array.getElem?_eq_getElem hi] at hx
  rw [Option.some.inj hx]; rfl
end
end Go.Proofs.YtbnjaaegbmhopaaGreatDoor
end
section
/- Lines: EqualLines and TurnLine, of package impl and of the model. -/
namespace Go.Proofs.YtbnjaaegbmhopaaGreatDoor
open Go.ChangeShapes Go.WideShapes Go.ChangeAt Go.RowKit
set_option linter.unusedVariables false

/-- Equal so far. -/
theorem eqPre_step {α : Type} {l m : List α} {j : Nat} (h : l.take j = m.take j) (hx : l[j]? = m[j]?) : l.take (j + 1) = m.take (j + 1) := by
  rw [List.take_add_one, List.take_add_one, h, hx]
theorem ne_of_get {α : Type} {l m : List α} {j : Nat} (h : l[j]? ≠ m[j]?) : l ≠ m := fun e => h (by rw [e])
theorem PtV_ne {a b c d : Int} (h : ¬ (a = c ∧ b = d)) : ((a, b) : Int × Int) ≠ (c, d) := fun e => h ⟨congrArg Prod.fst e, congrArg Prod.snd e⟩
def StRel (l : List (Int × Int)) (w : World) (v i : Value) (wr : World) : Prop :=
  ∃ (A : Option Addr) (c : Nat) (L : List (Int × Int)) (r : Nat), r ≤ l.length ∧ v = .slice A L.length c ∧ i = .int .i64 ((r : Int) - 1) ∧ Hid (L = l.reverse.take (l.length - r)) ∧ L.length = l.length - r ∧ OwnE 2 encPoint wr w.heap.size 33 (.slice A L.length c) L ∧ Below w.heap.size w wr
theorem st_step {l L L2 : List (Int × Int)} {m : Nat} {x : Int × Int} (hm : m + 1 ≤ l.length) (hL : L = l.reverse.take (l.length - (m + 1))) (h : L2 = L ++ [x]) (hx : l[m]? = some x) : L2 = l.reverse.take (l.length - m) := by
  have e : l.length - m = (l.length - (m + 1)) + 1 := by omega
  rw [h, hL, e, List.take_add_one, List.getElem?_reverse (by omega)]
  have e2 : l.length - 1 - (l.length - (m + 1)) = m := by omega
  rw [e2, hx]; rfl
end Go.Proofs.YtbnjaaegbmhopaaGreatDoor
end
section
/- Features: EqualFeatures and EqualSources of the model. -/
namespace Go.Proofs.YtbnjaaegbmhopaaGreatDoor
open Go.ChangeShapes Go.WideShapes Go.ChangeAt Go.RowKit
set_option linter.unusedVariables false

instance decName (a b : ByteArray) : Decidable (a = b) := if h : a.data = b.data then .isTrue (by cases a; cases b; simp_all) else .isFalse (fun e => h (by rw [e]))
instance decFeat (f g : Feat) : Decidable (f = g) :=
  if h : f.1 = g.1 ∧ f.2.1 = g.2.1 ∧ f.2.2.1 = g.2.2.1 ∧ f.2.2.2.1 = g.2.2.2.1 ∧ f.2.2.2.2 = g.2.2.2.2 then .isTrue (by
    obtain ⟨f0, f1, f2, f3, f4⟩ := f
    obtain ⟨g0, g1, g2, g3, g4⟩ := g
    obtain ⟨h0, h1, h2, h3, h4⟩ := h
    dsimp only at h0 h1 h2 h3 h4
    rw [h0, h1, h2, h3, h4])
  else .isFalse (fun e => h (by rw [e]; exact ⟨rfl, rfl, rfl, rfl, rfl⟩))
instance decFeats : DecidableEq (List Feat) := @instDecidableEqList Feat decFeat
theorem str_ne {s s' : ByteArray} (h : ¬ s = s') : (s.toList == s'.toList) = false := by
  rw [ByteArray.toList_eq, ByteArray.toList_eq, beq_eq_false_iff_ne]
  intro e
  apply h
  obtain ⟨d⟩ := s
  obtain ⟨d'⟩ := s'
  have : d = d' := Array.toList_inj.1 e
  rw [this]
/-- Features whose points are few. -/
def FewQ (l : List Feat) : Prop := ∀ (j : Nat) (f : Feat), l[j]? = some f → f.2.2.2.2.length ≤ 1099511627776
theorem eqL_no {l l' : List Feat} {j : Nat} {f g : Feat} (hf : l[j]? = some f) (hg : l'[j]? = some g) (h : ¬ f = g) : ¬ l = l' := fun e => by
  subst e
  rw [hf] at hg
  exact h (Option.some.inj hg)
end Go.Proofs.YtbnjaaegbmhopaaGreatDoor
end
section
/- Features: IsName, FindFeature, EqualFeatures, EqualSources of package impl. -/
namespace Go.Proofs.YtbnjaaegbmhopaaGreatDoor
open Go.ChangeShapes Go.WideShapes Go.ChangeAt Go.RowKit
set_option linter.unusedVariables false

theorem all_no {s : ByteArray} {k : Nat} (h : k < s.size) (hc : s[k].toNat < 97 ∨ 122 < s[k].toNat) : s.data.toList.all lowB = false := by
  rw [List.all_eq_false]
  refine ⟨s[k], name_mem s k h, ?_⟩
  simp only [lowB, Bool.and_eq_true, decide_eq_true_eq]
  omega
theorem all_end {s : ByteArray} (h : ∀ c ∈ s.data.toList.take s.size, lowB c = true) : s.data.toList.all lowB = true := by
  have hl : s.data.toList.length = s.size := Array.length_toList
  rw [← hl, List.take_length] at h
  exact List.all_eq_true.2 h
set_option maxRecDepth 100000 in
theorem areLetters_is (s : ByteArray) (z : Bool) (w : World) (hz : s.data.toList.all lowB = z) :
    Calls Tryz.prog 135 #[.string s] w fun e w' => e = .returned (.bool z) ∧ Below w.heap.size w w' := by
  have HZ := Lib.hid hz
  clear hz
  have HB := Lib.hid (fun p : Nat => (show Below w.heap.size w (w.iter s p) from (Below.refl _ _).alloc (Nat.le_refl _) _))
  go_enter Tryz.func135, Tryz.ntmps135
  go_wp2
  go_loopg [] s.size (fun g wr => ∃ pos : Nat, pos + g = s.size ∧ wr = w.iter s pos ∧ Hid (∀ c ∈ s.data.toList.take pos, lowB c = true))
  case atStart => exact ⟨0, by omega, rfl, Lib.hid (by simp)⟩
  case round =>
    obtain ⟨pos, hg, rfl, HT⟩ := hrel
    by_cases hp : pos < s.size
    · by_cases ha : (s[pos]'hp).toNat < 128
      · have hnx : ∀ ty, (Instr.next (.pointer (some ⟨w.heap.size, 0, none⟩)) true ty).run Tryz.prog (w.iter s pos) = _ := fun ty => run_next_ascii w s pos ty hp ha
        by_cases h1 : (s[pos]'hp).toNat < 97
        · have h1' : (((s[pos]'hp).toNat : Nat) : Int) < 97 := by omega
          obtain rfl : false = z := (all_no hp (.inl h1)).symm.trans HZ.out
          clear h1
          go_wp2
          go_ret
          exact ⟨rfl, HB.out _⟩
        · have h1' : ¬ (((s[pos]'hp).toNat : Nat) : Int) < 97 := by omega
          by_cases h2 : 122 < (s[pos]'hp).toNat
          · have h2' : (122 : Int) < (((s[pos]'hp).toNat : Nat) : Int) := by omega
            obtain rfl : false = z := (all_no hp (.inr h2)).symm.trans HZ.out
            clear h1 h2
            go_wp2
            go_ret
            exact ⟨rfl, HB.out _⟩
          · have h2' : ¬ (122 : Int) < (((s[pos]'hp).toNat : Nat) : Int) := by omega
            have HN := Lib.hid (name_step hp HT.out (by omega) (by omega))
            clear h1 h2
            go_wp2
            go_roundg (s.size - (pos + 1))
            case measure => omega
            case rel => exact ⟨pos + 1, by omega, rfl, HN⟩
      · have hnx : ∀ ty, (Instr.next (.pointer (some ⟨w.heap.size, 0, none⟩)) true ty).run Tryz.prog (w.iter s pos) = _ := fun ty => run_next_any w s pos ty hp
        have hd := (decode_high s pos hp (by omega)).1
        have hd2 := decode_le s pos
        obtain rfl : false = z := (all_no hp (.inr (by omega))).symm.trans HZ.out
        obtain ⟨r, hr⟩ : ∃ r, (Utf8.decode s pos).1 = r := ⟨_, rfl⟩
        rw [hr] at hd hd2 hnx
        have h1' : ¬ ((r : Nat) : Int) < 97 := by omega
        have h2' : (122 : Int) < ((r : Nat) : Int) := by omega
        clear hr
        go_wp2
        go_ret
        exact ⟨rfl, HB.out _⟩
    · have hnx : ∀ ty, (Instr.next (.pointer (some ⟨w.heap.size, 0, none⟩)) true ty).run Tryz.prog (w.iter s pos) = _ := fun ty => run_next_end w s pos ty hp
      obtain rfl : pos = s.size := by omega
      obtain rfl : true = z := (all_end HT.out).symm.trans HZ.out
      go_wp2
      go_ret
      exact ⟨rfl, HB.out _⟩
set_option maxRecDepth 100000 in
theorem isName_is (s : ByteArray) (z : Bool) (w : World) (hm : s.size ≤ maxLen) (hz : nameV s = z) :
    Calls Tryz.prog 99 #[.string s] w fun e w' => e = .returned (.bool z) ∧ Below w.heap.size w w' := by
  unfold maxLen at hm
  obtain ⟨p, hp⟩ : ∃ p, inB (s.size : Int) 1 8 = p := ⟨_, rfl⟩
  obtain ⟨q, hq⟩ : ∃ q, s.data.toList.all lowB = q := ⟨_, rfl⟩
  obtain rfl : (p && q) = z := by rw [← hz, ← hp, ← hq]; simp [nameV, Bool.and_comm]
  have HP := Lib.hid hp
  have HQ := Lib.hid hq
  clear hp hq hz
  go_enter Tryz.func99, Tryz.ntmps99
  cases p
  all_goals
    go_wp2_with (first
      | (go_at_call 48; refine (in_is _ _ _ _ _ HP.out).mono ?_; rintro e w1 ⟨rfl, rfl⟩)
      | (go_at_call 135; refine (areLetters_is s q _ HQ.out).mono ?_; rintro e w1 ⟨rfl, hb1⟩))
    go_ret
    first | exact ⟨rfl, hb1⟩ | exact ⟨rfl, Below.refl _ _⟩
end Go.Proofs.YtbnjaaegbmhopaaGreatDoor
end
section
namespace Go.Proofs.YtbnjaaegbmhopaaGreatDoor
open Go.ChangeShapes Go.WideShapes Go.ChangeAt Go.RowKit
set_option linter.unusedVariables false

theorem smp_turn (l : List (Int × Int)) : smpV l = (turnV false (sgV l) && isLn l) := by
  unfold smpV turnV
  congr 1
  refine decide_eq_decide.2 ⟨fun h k hk i hi => ?_, fun h k hk i hi => ?_⟩
  · have := h k hk i hi
    obtain ⟨u, hu⟩ : ∃ u, (sgV l)[i]? = some u := ⟨_, List.getElem?_eq_getElem (by omega)⟩
    obtain ⟨v, hv⟩ : ∃ v, (sgV l)[k]? = some v := ⟨_, List.getElem?_eq_getElem hk⟩
    rw [mtOk_at hu hv] at this
    rw [prOk_at hu hv, show wantC false (sgV l).length i k = if i + 1 = k then 1 else 0 by unfold wantC; simp]
    exact this
  · have := h k hk i hi
    obtain ⟨u, hu⟩ : ∃ u, (sgV l)[i]? = some u := ⟨_, List.getElem?_eq_getElem (by omega)⟩
    obtain ⟨v, hv⟩ : ∃ v, (sgV l)[k]? = some v := ⟨_, List.getElem?_eq_getElem hk⟩
    rw [prOk_at hu hv, show wantC false (sgV l).length i k = if i + 1 = k then 1 else 0 by unfold wantC; simp] at this
    rw [mtOk_at hu hv]
    exact this
set_option maxRecDepth 100000 in
set_option maxHeartbeats 4000000 in
theorem isSimple_is (A : Option Addr) (c : Nat) (l : List (Int × Int)) (w : World) (hs : SeesE 2 encPoint w w.heap.size A l) (hl : l.length ≤ 1099511627776) (z : Bool) (hz : smpV l = z) :
    Calls Tryz.prog 202 #[.slice A l.length c] w fun e w' => e = .returned (.bool z) ∧ Below w.heap.size w w' := by
  have HS := Lib.hid hs; clear hs
  have HZ : Hid ((turnV false (sgV l) && isLn l) = z) := Lib.hid (by rw [← smp_turn]; exact hz)
  clear hz
  go_enter Tryz.func202, Tryz.ntmps202
  cases hi : isLn l
  · obtain rfl : z = false := by rw [← HZ.out, hi, Bool.and_false]
    have h0 : Hid (sgV l = []) := Lib.hid (sgV_no hi)
    go_wp2_with fail
    refine (segmentsOf_any A c l _ HS.out hl).mono ?_
    rintro e w1 ⟨A1, c1, L, hL, rfl, ho1, hb1⟩
    have hn : L.length = 0 := by rw [hL.out, h0.out]; rfl
    have hn2 : ((L.length : Nat) : Int) = 0 := by omega
    have HB1 := Lib.hid hb1
    rw [hn]
    clear ho1 hb1 hn hn2
    go_wp2
    go_ret
    exact ⟨rfl, HB1.out⟩
  · have hz' : turnV false (sgV l) = z := by rw [← HZ.out, hi, Bool.and_true]
    have HT := Lib.hid hz'
    clear hz'
    go_wp2_with fail
    refine (segmentsOf_any A c l _ HS.out hl).mono ?_
    rintro e w1 ⟨A1, c1, L, hL, rfl, ho1, hb1⟩
    have hn : (0 : Int) < (L.length : Int) := by have := sgV_pos hi; rw [← hL.out] at this; omega
    have h9 : L.length ≤ 1000 := by rw [hL.out]; have := sgV_len l; omega
    have HB1 := Lib.hid hb1; have HO1 := Lib.hid ho1
    have HT2 : Hid (turnV false L = z) := Lib.hid (by rw [hL.out]; exact HT.out)
    clear ho1 hb1
    go_wp2_with (go_at_call 78; refine (meetInTurn_is A1 c1 false L _ (HO1.out.sees elSegment) h9 _ HT2.out).mono ?_; rintro e w2 ⟨rfl, hb2⟩)
    go_ret
    exact ⟨by cases z <;> rfl, HB1.out.trans (hb2.mono HB1.out.size)⟩
end Go.Proofs.YtbnjaaegbmhopaaGreatDoor
end
