/- Segments that follow one another: meetInTurn of package impl. -/
import Derived.Test.YtbnjaaegbmhopaaGreatDoorLineJ
namespace Go.Proofs.YtbnjaaegbmhopaaGreatDoor
open Go.ChangeShapes Go.WideShapes Go.ChangeAt Go.RowKit
set_option linter.unusedVariables false

/-- What two segments at i < k of n should meet like; z: the last one is followed by the first one. -/
def wantC (z : Bool) (n i k : Nat) : Int := if i + 1 = k ∨ (z = true ∧ i = 0 ∧ k + 1 = n) then 1 else 0
def prOk (z : Bool) (S : List (Int × Int × Int × Int)) (i k : Nat) : Bool := match S[i]?, S[k]? with
  | some u, some v => howS u v == wantC z S.length i k
  | _, _ => true
theorem prOk_at {z : Bool} {S : List (Int × Int × Int × Int)} {i k : Nat} {u v : Int × Int × Int × Int} (h : S[i]? = some u) (h' : S[k]? = some v) : prOk z S i k = (howS u v == wantC z S.length i k) := by simp only [prOk, h, h']
/-- Do they meet in turn? -/
def turnV (z : Bool) (S : List (Int × Int × Int × Int)) : Bool := decide (∀ k, k < S.length → ∀ i, i < k → prOk z S i k = true)
theorem turn_no {z : Bool} {S : List (Int × Int × Int × Int)} {i k : Nat} {u v : Int × Int × Int × Int} (hi : S[i]? = some u) (hk : S[k]? = some v) (hik : i < k) (h : ¬ howS u v = wantC z S.length i k) : turnV z S = false :=
  decide_eq_false fun g => by
    have := g k (List.getElem?_eq_some_iff.1 hk).1 i hik
    rw [prOk_at hi hk, beq_iff_eq] at this
    exact h this
theorem turn_yes {z : Bool} {S : List (Int × Int × Int × Int)} (h : ∀ k, k < S.length → ∀ i, i < k → prOk z S i k = true) : turnV z S = true := decide_eq_true h
theorem pr_ok {z : Bool} {S : List (Int × Int × Int × Int)} {i k : Nat} {u v : Int × Int × Int × Int} (hi : S[i]? = some u) (hk : S[k]? = some v) (h : howS u v = wantC z S.length i k) : prOk z S i k = true := by
  rw [prOk_at hi hk, beq_iff_eq]; exact h
set_option maxRecDepth 100000 in
set_option maxHeartbeats 4000000 in
theorem meetRightly_is (Bs Bc Bl b off c1 B i j : Nat) (cl : Bool) (L : List (Int × Int × Int × Int)) (u v : Int × Int × Int × Int) (w : World) (hBs : w.cell? ⟨Bs, 0, none⟩ = some (.slice (some ⟨b, off, none⟩) L.length c1))
    (hBc : w.cell? ⟨Bc, 0, none⟩ = some (.bool cl)) (hBl : w.cell? ⟨Bl, 0, none⟩ = some (.int .i64 ((L.length : Int) - 1))) (hs : SeesE 4 encSegment w B (some ⟨b, off, none⟩) L) (h9 : L.length ≤ 1000)
    (hu : L[i]? = some u) (hv : L[j]? = some v) (z : Bool) (hz : decide (howS u v = wantC cl L.length i j) = z) :
    Calls Tryz.prog 116 #[.int .i64 i, .int .i64 j, .pointer (some ⟨Bs, 0, none⟩), .pointer (some ⟨Bc, 0, none⟩), .pointer (some ⟨Bl, 0, none⟩)] w fun e w' => e = .returned (.bool z) ∧ Below w.heap.size w w' := by
  have hil := (List.getElem?_eq_some_iff.1 hu).1
  have hjl := (List.getElem?_eq_some_iff.1 hv).1
  have hil' : (i : Int) < (L.length : Int) := by omega
  have hjl' : (j : Int) < (L.length : Int) := by omega
  obtain ⟨k0, k1, k2, k3⟩ := cells4 hs hu
  obtain ⟨k4, k5, k6, k7⟩ := cells4 hs hv
  obtain ⟨m, hm⟩ : ∃ m, howS u v = m := ⟨_, rfl⟩
  have HZ : Hid (decide (m = wantC cl L.length i j) = z) := Lib.hid (by rw [← hm]; exact hz)
  clear hu hv hs hz
  go_enter Tryz.func116, Tryz.ntmps116
  go_wp2
  go_region_held3 (fun w' => w'.cell? ⟨Bs, 0, none⟩ = some (.slice (some ⟨b, off, none⟩) L.length c1) ∧ (w'.cell? ⟨b, off + i * 4, none⟩ = some (.int .i64 u.1) ∧ w'.cell? ⟨b, off + i * 4 + 1, none⟩ = some (.int .i64 u.2.1) ∧ w'.cell? ⟨b, off + i * 4 + 2, none⟩ = some (.int .i64 u.2.2.1) ∧ w'.cell? ⟨b, off + i * 4 + 3, none⟩ = some (.int .i64 u.2.2.2)) ∧ (w'.cell? ⟨b, off + j * 4, none⟩ = some (.int .i64 v.1) ∧ w'.cell? ⟨b, off + j * 4 + 1, none⟩ = some (.int .i64 v.2.1) ∧ w'.cell? ⟨b, off + j * 4 + 2, none⟩ = some (.int .i64 v.2.2.1) ∧ w'.cell? ⟨b, off + j * 4 + 3, none⟩ = some (.int .i64 v.2.2.2))) (first | exact ⟨hBs, ⟨k0, k1, k2, k3⟩, ⟨k4, k5, k6, k7⟩⟩ | exact hQ) (first
    | (go_at_call 95; refine (howS_is u v _ _ hm).mono ?_; rintro e w9 ⟨rfl, hb9⟩; have hb9' := Lib.hid hb9; have hQ := And.intro ((hb9.cell (World.block_lt_of_cell? _ _ hBs)).trans hBs) (And.intro (And.intro ((hb9.cell (World.block_lt_of_cell? _ _ k0)).trans k0) (And.intro ((hb9.cell (World.block_lt_of_cell? _ _ k1)).trans k1) (And.intro ((hb9.cell (World.block_lt_of_cell? _ _ k2)).trans k2) ((hb9.cell (World.block_lt_of_cell? _ _ k3)).trans k3)))) (And.intro ((hb9.cell (World.block_lt_of_cell? _ _ k4)).trans k4) (And.intro ((hb9.cell (World.block_lt_of_cell? _ _ k5)).trans k5) (And.intro ((hb9.cell (World.block_lt_of_cell? _ _ k6)).trans k6) ((hb9.cell (World.block_lt_of_cell? _ _ k7)).trans k7)))))) | fail)
  all_goals
    have hc9 := (hb9.cell (World.block_lt_of_cell? _ _ hBc)).trans hBc
    have hl9 := (hb9.cell (World.block_lt_of_cell? _ _ hBl)).trans hBl
    by_cases he : i + 1 = j
    · have he' : (i : Int) + 1 = (j : Int) := by omega
      have hz := HZ.out
      rw [show wantC cl L.length i j = 1 from if_pos (.inl he)] at hz
      by_cases h1 : m = 1
      · subst h1
        obtain rfl : z = true := by rw [← hz]; rfl
        go_wp2
        go_ret
        exact ⟨rfl, (Below.refl _ w).drew.trans hb9⟩
      · obtain rfl : z = false := by rw [← hz, decide_eq_false h1]
        go_wp2
        go_ret
        exact ⟨by simp [h1], (Below.refl _ w).drew.trans hb9⟩
    · have he' : ¬ ((i : Int) + 1 = (j : Int)) := by omega
      have he2 : ((i : Int) + 1 == (j : Int)) = false := by simp [he']
      have hz := HZ.out
      cases cl
      · rw [show wantC false L.length i j = 0 from if_neg (by simp [he])] at hz
        by_cases h1 : m = 0
        · subst h1
          obtain rfl : z = true := by rw [← hz]; rfl
          go_wp2
          go_ret
          exact ⟨rfl, (Below.refl _ w).drew.trans hb9⟩
        · obtain rfl : z = false := by rw [← hz, decide_eq_false h1]
          go_wp2
          go_ret
          exact ⟨by simp [h1], (Below.refl _ w).drew.trans hb9⟩
      · by_cases hi0 : i = 0
        · subst hi0
          by_cases hj0 : j + 1 = L.length
          · have hj1 : ((j : Int) == (L.length : Int) - 1) = true := by simp; omega
            rw [show wantC true L.length 0 j = 1 from if_pos (.inr ⟨rfl, rfl, hj0⟩)] at hz
            by_cases h1 : m = 1
            · subst h1
              obtain rfl : z = true := by rw [← hz]; rfl
              go_wp2
              go_ret
              exact ⟨rfl, (Below.refl _ w).drew.trans hb9⟩
            · obtain rfl : z = false := by rw [← hz, decide_eq_false h1]
              go_wp2
              go_ret
              exact ⟨by simp [h1], (Below.refl _ w).drew.trans hb9⟩
          · have hj1 : ((j : Int) == (L.length : Int) - 1) = false := by simp; omega
            rw [show wantC true L.length 0 j = 0 from if_neg (by simp; omega)] at hz
            by_cases h1 : m = 0
            · subst h1
              obtain rfl : z = true := by rw [← hz]; rfl
              go_wp2
              go_ret
              exact ⟨rfl, (Below.refl _ w).drew.trans hb9⟩
            · obtain rfl : z = false := by rw [← hz, decide_eq_false h1]
              go_wp2
              go_ret
              exact ⟨by simp [h1], (Below.refl _ w).drew.trans hb9⟩
        · have hi1 : ((i : Int) == 0) = false := by simp; omega
          rw [show wantC true L.length i j = 0 from if_neg (by simp; omega)] at hz
          by_cases h1 : m = 0
          · subst h1
            obtain rfl : z = true := by rw [← hz]; rfl
            go_wp2
            go_ret
            exact ⟨rfl, (Below.refl _ w).drew.trans hb9⟩
          · obtain rfl : z = false := by rw [← hz, decide_eq_false h1]
            go_wp2
            go_ret
            exact ⟨by simp [h1], (Below.refl _ w).drew.trans hb9⟩
set_option maxRecDepth 100000 in
set_option maxHeartbeats 4000000 in
theorem meetInTurn_is (A1 : Option Addr) (c1 : Nat) (cl : Bool) (L : List (Int × Int × Int × Int)) (w : World) (hs : SeesE 4 encSegment w w.heap.size A1 L) (h9 : L.length ≤ 1000) (z : Bool) (hz : turnV cl L = z) :
    Calls Tryz.prog 78 #[.slice A1 L.length c1, .bool cl] w fun e w' => e = .returned (.bool z) ∧ Below w.heap.size w w' := by
  have HS := Lib.hid hs; clear hs
  have HZ := Lib.hid hz; clear hz
  go_enter Tryz.func78, Tryz.ntmps78
  go_wp2
  have e1 : (w.alloc (.cells #[.slice A1 L.length c1] 38)).heap.size = w.heap.size + 1 := by simp
  have e2 : ((w.alloc (.cells #[.slice A1 L.length c1] 38)).alloc (.cells #[.bool cl] 4)).heap.size = w.heap.size + 1 + 1 := by simp
  have bC0 := Boxed.new (w.alloc (.cells #[.slice A1 L.length c1] 38)) 4 (.bool cl)
  rw [e1] at bC0
  have bL0 := Boxed.new ((w.alloc (.cells #[.slice A1 L.length c1] 38)).alloc (.cells #[.bool cl] 4)) 3 (.int .i64 ((L.length : Int) - 1))
  rw [e2] at bL0
  have HX0 := Lib.hid (((Boxed.new w 38 (.slice A1 L.length c1)).alloc (.cells #[.bool cl] 4)).alloc (.cells #[.int .i64 ((L.length : Int) - 1)] 3))
  have HC0 := Lib.hid (bC0.alloc (.cells #[.int .i64 ((L.length : Int) - 1)] 3))
  have HL0 := Lib.hid bL0
  have HB0 := Lib.hid ((((Below.refl w.heap.size w).alloc (Nat.le_refl _) (.cells #[.slice A1 L.length c1] 38)).alloc (by simp) (.cells #[.bool cl] 4)).alloc (by simp; omega) (.cells #[.int .i64 ((L.length : Int) - 1)] 3))
  clear bC0 bL0 e1 e2
  generalize w.heap.size + 1 + 1 = Bl at HX0 HC0 HL0 HB0 ⊢
  generalize w.heap.size + 1 = Bc at HX0 HC0 HL0 HB0 ⊢
  generalize hW : ((w.alloc (.cells #[.slice A1 L.length c1] 38)).alloc (.cells #[.bool cl] 4)).alloc (.cells #[.int .i64 ((L.length : Int) - 1)] 3) = w2 at HX0 HC0 HL0 HB0 ⊢
  clear hW
  go_loopw [15] (fun i wr => ∃ j : Nat, j ≤ L.length ∧ i = .int .i64 j ∧ Hid (∀ k, k < j → ∀ i, i < k → prOk cl L i k = true) ∧ Hid (Boxed wr w.heap.size 38 (.slice A1 L.length c1)) ∧ Hid (Boxed wr Bc 4 (.bool cl)) ∧ Hid (Boxed wr Bl 3 (.int .i64 ((L.length : Int) - 1))) ∧ Hid (Below w.heap.size w wr)) (fun i _ => L.length - (intOf i).toNat)
  case atStart => exact ⟨0, Nat.zero_le _, rfl, Lib.hid (fun k hk => by omega), HX0, HC0, HL0, HB0⟩
  case round =>
    obtain ⟨i, hi, rfl, hp, HX, HC, HL, HB⟩ := hrel
    clear HX0 HC0 HL0 HB0
    by_cases hlt : i < L.length
    · have hli : (i : Int) < (L.length : Int) := by omega
      go_wp2
      go_loopw [19] (fun k wx => ∃ j : Nat, j ≤ i ∧ k = .int .i64 j ∧ Hid (∀ q, q < j → prOk cl L q i = true) ∧ Hid (Boxed wx w.heap.size 38 (.slice A1 L.length c1)) ∧ Hid (Boxed wx Bc 4 (.bool cl)) ∧ Hid (Boxed wx Bl 3 (.int .i64 ((L.length : Int) - 1))) ∧ Hid (Below w.heap.size w wx)) (fun k _ => i - (intOf k).toNat)
      case atStart => exact ⟨0, Nat.zero_le _, rfl, Lib.hid (fun k hk => by omega), HX, HC, HL, HB⟩
      case round =>
        obtain ⟨j, hj, rfl, hq, HX, HC, HL, HB⟩ := hrel
        by_cases hlj : j < i
        · have hlj' : (j : Int) < (i : Int) := by omega
          obtain ⟨b, off, v, rfl, hbl, hv, -⟩ := HS.out.lt hlt
          obtain ⟨u, hu⟩ : ∃ u, L[j]? = some u := ⟨_, List.getElem?_eq_getElem (by omega)⟩
          have HU := Lib.hid hu; have HV := Lib.hid hv
          clear hu hv
          cases hd : decide (howS u v = wantC cl L.length j i)
          · obtain rfl : z = false := HZ.out.symm.trans (turn_no HU.out HV.out hlj (of_decide_eq_false hd))
            go_wp2_with (go_at_call 116; refine (meetRightly_is w.heap.size Bc Bl b off c1 _ j i cl L u v _ HX.out.cell HC.out.cell HL.out.cell (HS.out.below HB.out) h9 HU.out HV.out _ hd).mono ?_; rintro e w9 ⟨rfl, hb9⟩)
            go_ret
            exact ⟨rfl, HB.out.trans (hb9.mono HB.out.size)⟩
          · go_wp2_with (go_at_call 116; refine (meetRightly_is w.heap.size Bc Bl b off c1 _ j i cl L u v _ HX.out.cell HC.out.cell HL.out.cell (HS.out.below HB.out) h9 HU.out HV.out _ hd).mono ?_; rintro e w9 ⟨rfl, hb9⟩)
            go_roundw
            case rel => exact ⟨j + 1, by omega, by go_num, Lib.hid (upto_step hq.out (pr_ok HU.out HV.out (of_decide_eq_true hd))), Lib.hid (boxed_call HX.out hb9), Lib.hid (boxed_call HC.out hb9), Lib.hid (boxed_call HL.out hb9), Lib.hid (HB.out.trans (hb9.mono HB.out.size))⟩
            case measure => simp [intOf]; omega
        · obtain rfl : j = i := by omega
          go_wp2
          go_roundw
          case rel => exact ⟨j + 1, by omega, by go_num, Lib.hid (upto_step hp.out hq.out), HX, HC, HL, HB⟩
          case measure => simp [intOf]; omega
    · obtain rfl : i = L.length := by omega
      obtain rfl : z = true := HZ.out.symm.trans (turn_yes hp.out)
      go_wp2
      go_ret
      exact ⟨rfl, HB.out⟩
end Go.Proofs.YtbnjaaegbmhopaaGreatDoor
