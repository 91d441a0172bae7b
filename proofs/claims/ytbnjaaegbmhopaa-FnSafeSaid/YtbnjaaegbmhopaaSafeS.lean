/- Lines that never cross: DropPoint and CornerArea of the model. -/
import Derived.Test.YtbnjaaegbmhopaaSafeV
import Derived.Test.YtbnjaaegbmhopaaStepE
import Derived.Test.YtbnjaaegbmhopaaLineS1
import Derived.Test.YtbnjaaegbmhopaaBoxV
import Derived.Test.YtbnjaaegbmhopaaOneVar
import Derived.Deep.RegionHeld3
namespace Go.Proofs.Ytbnjaaegbmhopaa
open Go.ChangeShapes Go.WideShapes Go.ChangeAt Go.RowKit
set_option linter.unusedVariables false

/-- What DropPoint gives. -/
def DropOf (l : List (Int × Int)) (i : Int) (w : World) (e : Ending) (w' : World) : Prop :=
  ∃ A c L k, Hid (L = dropV l i) ∧ Hid (k = dropOk l i) ∧ e = .returned (.tuple #[.slice A L.length c, .bool k]) ∧ OwnE 2 encPoint w' w.heap.size 25 (.slice A L.length c) L ∧ Below w.heap.size w w'
theorem midB_no1 {l : List (Int × Int)} {i : Int} (h : isLn l = false) : midB l i = false := by unfold midB; rw [h]; rfl
theorem dropOk_no {l : List (Int × Int)} {i : Int} (h : midB l i = false) : dropOk l i = false := by unfold dropOk; rw [h]; rfl
set_option maxRecDepth 100000 in
set_option maxHeartbeats 4000000 in
theorem sDropPoint_any (A : Option Addr) (c : Nat) (l : List (Int × Int)) (i : Int) (w : World) (hs : SeesE 2 encPoint w w.heap.size A l) (hl : l.length ≤ 274877906944) (hlc : l.length ≤ c) (hc : (c : Int) ≤ 9223372036854775807) :
    Calls Try.prog 59 #[.slice A l.length c, .int .i64 i] w (DropOf l i w) := by
  have HS := Lib.hid hs; clear hs
  go_enter Try.func59, Try.ntmps59
  cases hi : isLn l
  · have hk := dropOk_no (midB_no1 (i := i) hi)
    go_wp2_with (first
      | (go_at_call 109; refine (sIsLine_is A c l _ HS.out (by omega) _ hi).mono ?_; rintro e w1 ⟨rfl, hb1⟩; have HS1 := Lib.hid (HS.out.belowAll hb1))
      | (at_builtin; refine appPoint _ rfl _ _ rfl w.heap.size _ [] rfl (OwnE.lit _ w.heap.size 25 hb1.size) _ A _ c l rfl rfl (HS1.out.alloc (Nat.le_refl _) _) (by simp; omega) (by simp; have := hb1.size; omega) ?_; intro A4 c4 L4 w4 hL4 h1 h2 ho4 hb4))
    go_ret2
    exact ⟨A4, c4, L4, false, Lib.hid (by rw [hL4.out, dropV_no hk]; rfl), Lib.hid hk.symm, rfl, ho4, (hb1.trans ((Below.refl _ _).alloc hb1.size _)).trans hb4⟩
  have hln := isLn_yes hi
  have h2l := hln.1; have h10 := hln.2.1
  clear hln
  have hw2 : IntKind.i64.wrap ((l.length : Int) - 2) = (l.length : Int) - 2 := by rw [IntKind.wrap_i64]; omega
  cases hn : inB i 1 ((l.length : Int) - 2)
  · have hk := dropOk_no (l := l) (i := i) (by unfold midB; rw [hi, hn]; rfl)
    go_wp2_with (first
      | (go_at_call 109; refine (sIsLine_is A c l _ HS.out (by omega) _ hi).mono ?_; rintro e w1 ⟨rfl, hb1⟩; have HS1 := Lib.hid (HS.out.belowAll hb1))
      | (go_at_call 107; refine (l1in_is _ _ _ _ _ hn).mono ?_; rintro e w2 ⟨rfl, rfl⟩)
      | (at_builtin; refine appPoint _ rfl _ _ rfl w.heap.size _ [] rfl (OwnE.lit _ w.heap.size 25 hb1.size) _ A _ c l rfl rfl (HS1.out.alloc (Nat.le_refl _) _) (by simp; omega) (by simp; have := hb1.size; omega) ?_; intro A4 c4 L4 w4 hL4 h1 h2 ho4 hb4))
    go_ret2
    exact ⟨A4, c4, L4, false, Lib.hid (by rw [hL4.out, dropV_no hk]; rfl), Lib.hid hk.symm, rfl, ho4, (hb1.trans ((Below.refl _ _).alloc hb1.size _)).trans hb4⟩
  obtain ⟨j, rfl, hj1, hj2⟩ := (midB_at (l := l) (i := i) (by unfold midB; rw [hi, hn]; rfl)).2
  have hm : midB l (j : Int) = true := midB_nat hi hj1 hj2
  have HM := Lib.hid hm; clear hm
  have b0 : (0 : Int) ≤ (j : Int) := by omega
  have b1 : ¬ ((j : Int) < 0) := by omega
  have b2 : ¬ ((c : Int) < (j : Int)) := by omega
  have b3 : (j : Int) ≤ (c : Int) := by omega
  have b4 : (j : Int) ≤ (l.length : Int) := by omega
  have b5 : (0 : Int) ≤ (j : Int) + 1 := by omega
  have b6 : ¬ ((j : Int) + 1 < 0) := by omega
  have b7 : (j : Int) + 1 ≤ (l.length : Int) := by omega
  have b8 : ¬ ((l.length : Int) < (j : Int) + 1) := by omega
  have b9 : (l.length : Int) ≤ (c : Int) := by omega
  have hw0 : IntKind.i64.wrap (j : Int) = (j : Int) := by rw [IntKind.wrap_i64]; omega
  have hw1 : IntKind.i64.wrap ((j : Int) + 1) = (j : Int) + 1 := by rw [IntKind.wrap_i64]; omega
  go_wp2_with (first
    | (go_at_call 109; refine (sIsLine_is A c l _ HS.out (by omega) _ hi).mono ?_; rintro e w1 ⟨rfl, hb1⟩; have HS1 := Lib.hid (HS.out.belowAll hb1); have HB1 := Lib.hid hb1)
    | (go_at_call 107; refine (l1in_is _ _ _ _ _ hn).mono ?_; rintro e w2 ⟨rfl, rfl⟩))
  have hlc' : ¬ (c = j + 1) := by omega
  have HT : Hid (∀ W, Below w.heap.size w W → SeesE 2 encPoint W W.heap.size A (l.take j)) := Lib.hid fun W hW => (HS.out.belowAll hW).pre j
  have HA : Hid (∀ W, Below w.heap.size w W → SeesE 2 encPoint W W.heap.size (if c = j + 1 then A else Option.map (fun x => x.add ((j + 1) * 2)) A) (l.drop (j + 1))) := Lib.hid fun W hW => (HS.out.belowAll hW).suf (j + 1) _ (fun _ => if_neg hlc')
  have E1 : Hid ((l.take j).length = j) := Lib.hid (by simp; omega)
  have E2 : Hid ((l.drop (j + 1)).length = l.length - (j + 1)) := Lib.hid (by simp)
  clear hlc'
  go_upto_region 3 with fail
  go_region_held3 (fun _ => True) (trivial) (first
    | (refine stepPt _ _ _ (by rfl) w.heap.size _ [] (by rfl) (OwnE.lit _ w.heap.size 25 (by first | exact HB1.out.size | exact HB1.out.drew.size)) _ _ _ _ (l.take j) (by rfl) E1.out.symm (HT.out _ (by first | exact (HB1.out.drew.alloc HB1.out.size _) | exact (HB1.out.alloc HB1.out.size _).drew | exact (HB1.out.alloc HB1.out.size _))) (by rw [E1.out]; simp; omega) (by simp; have := HB1.out.size; omega) ?_; intro A4 c4 L4 w4 hL4 h1 h2 ho4 hb4; have HB4 := Lib.hid (Below.trans (by first | exact (HB1.out.drew.alloc HB1.out.size _) | exact (HB1.out.alloc HB1.out.size _).drew | exact (HB1.out.alloc HB1.out.size _)) hb4); have HO4 := Lib.hid ho4; have HL4 := hL4; have hlen4 : L4.length ≤ 10 := by (have := E1.out; simp at h1 h2; omega))
    | (refine stepPt _ _ _ (by rfl) w.heap.size _ L4 (by rfl) HO4.out _ _ _ _ (l.drop (j + 1)) (by rfl) E2.out.symm (HA.out _ HB4.out) (by rw [E2.out]; omega) HB4.out.size ?_; intro A5 c5 L5 w5 hL5 h1 h2 ho5 hb5; have HO5 := Lib.hid ho5; have HB5 := Lib.hid (HB4.out.trans hb5); have HL5 := hL5)
    | fail)
  all_goals
    have HD : Hid (L5 = dropL l j) := Lib.hid (by rw [HL5.out, HL4.out]; rfl)
    have hl5 : L5.length ≤ 1099511627776 := by rw [HD.out, dropL_len (by omega)]; omega
    have HS5 := Lib.hid (HS.out.belowAll HB5.out)
    have hz5 := HB5.out.size
    have hz1 := HB1.out.size
    cases h5 : isLn L5
    · have hk : dropOk l (j : Int) = false := by unfold dropOk; rw [HM.out, Int.toNat_natCast, ← HD.out, h5]; rfl
      go_wp2_with (first
        | (go_at_call 109; refine (sIsLine_is A5 c5 L5 _ (HO5.out.sees elPoint) hl5 _ h5).mono ?_; rintro e w6 ⟨rfl, hb6⟩; have HS6 := Lib.hid (HS5.out.belowAll hb6); have HB6 := Lib.hid (HB5.out.trans (hb6.mono hz5)))
        | (at_builtin; refine appPoint _ rfl _ _ rfl w.heap.size _ [] rfl (OwnE.lit _ w.heap.size 25 HB6.out.size) _ A _ c l rfl rfl (HS6.out.alloc (Nat.le_refl _) _) (by simp; omega) (by simp; have := HB6.out.size; omega) ?_; intro A7 c7 L7 w7 hL7 h1 h2 ho7 hb7))
      go_ret2
      exact ⟨A7, c7, L7, false, Lib.hid (by rw [hL7.out, dropV_no hk]; rfl), Lib.hid hk.symm, rfl, ho7, (HB6.out.alloc HB6.out.size _).trans hb7⟩
    · have hk : dropOk l (j : Int) = true := by unfold dropOk; rw [HM.out, Int.toNat_natCast, ← HD.out, h5]; rfl
      go_wp2_with fail
      refine (sIsLine_is A5 c5 L5 _ (HO5.out.sees elPoint) hl5 _ h5).mono ?_
      rintro e w6 ⟨rfl, hb6⟩
      go_wp2
      go_ret2
      exact ⟨A5, c5, L5, true, Lib.hid (by rw [HD.out, dropV_yes hk, Int.toNat_natCast]), Lib.hid hk.symm, rfl, HO5.out.belowAll hb6, HB5.out.trans (hb6.mono hz5)⟩
end Go.Proofs.Ytbnjaaegbmhopaa
