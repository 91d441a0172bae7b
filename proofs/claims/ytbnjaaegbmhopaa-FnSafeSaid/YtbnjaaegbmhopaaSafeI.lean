/- Lines that never cross: isCorner, CornerArea and DropPoint of package impl. -/
import Derived.Test.YtbnjaaegbmhopaaSafeS
import Derived.Test.YtbnjaaegbmhopaaLineJ
import Derived.Test.YtbnjaaegbmhopaaClone
import Derived.Test.YtbnjaaegbmhopaaConcat
namespace Go.Proofs.Ytbnjaaegbmhopaa
open Go.ChangeShapes Go.WideShapes Go.ChangeAt Go.RowKit
set_option linter.unusedVariables false

set_option maxRecDepth 100000 in
theorem isCorner_is (A : Option Addr) (c : Nat) (l : List (Int × Int)) (i : Int) (z : Bool) (w : World) (hs : SeesE 2 encPoint w w.heap.size A l) (hl : l.length ≤ 1099511627776) (hz : midB l i = z) :
    Calls Try.prog 100 #[.slice A l.length c, .int .i64 i] w fun e w' => e = .returned (.bool z) ∧ Below w.heap.size w w' := by
  have HS := Lib.hid hs; have HZ := Lib.hid hz; clear hs hz
  have hw2 : IntKind.i64.wrap ((l.length : Int) - 2) = (l.length : Int) - 2 := by rw [IntKind.wrap_i64]; omega
  go_enter Try.func100, Try.ntmps100
  cases hi : isLn l
  · obtain rfl : false = z := by rw [← HZ.out, midB_no1 hi]
    go_wp2_with fail
    refine (isLine_is A c l _ HS.out hl _ hi).mono ?_
    rintro e w1 ⟨rfl, hb1⟩
    go_wp2
    go_ret
    exact ⟨rfl, hb1⟩
  · have HN : Hid (inB i 1 ((l.length : Int) - 2) = z) := Lib.hid (by rw [← HZ.out]; unfold midB; rw [hi]; rfl)
    go_wp2_with fail
    refine (isLine_is A c l _ HS.out hl _ hi).mono ?_
    rintro e w1 ⟨rfl, hb1⟩
    go_wp2_with fail
    refine (in_is _ _ _ _ _ HN.out).mono ?_
    rintro e w2 ⟨rfl, rfl⟩
    go_wp2
    go_ret
    exact ⟨rfl, hb1⟩
set_option maxRecDepth 100000 in
set_option maxHeartbeats 4000000 in
theorem cornerArea_is (A : Option Addr) (c : Nat) (l : List (Int × Int)) (i z : Int) (w : World) (hs : SeesE 2 encPoint w w.heap.size A l) (hl : l.length ≤ 1099511627776) (hz : crnV l i = z) :
    Calls Try.prog 45 #[.slice A l.length c, .int .i64 i] w fun e w' => e = .returned (.int .i64 z) ∧ Below w.heap.size w w' := by
  have HS := Lib.hid hs; clear hs
  have HZ := Lib.hid hz; clear hz
  go_enter Try.func45, Try.ntmps45
  cases hi : midB l i
  · obtain rfl : -1 = z := by rw [← HZ.out, crnV_no hi]
    go_wp2_with fail
    refine (isCorner_is A c l i _ _ HS.out hl hi).mono ?_
    rintro e w1 ⟨rfl, hb1⟩
    go_wp2
    go_ret
    exact ⟨rfl, hb1⟩
  have HM := Lib.hid hi
  obtain ⟨hln, j, rfl, hj1, hj2⟩ := midB_at hi
  have h10 := (isLn_yes hln).2.1
  obtain ⟨⟨a, b⟩, hp0⟩ : ∃ p, l[j - 1]? = some p := ⟨_, List.getElem?_eq_getElem (by omega)⟩
  obtain ⟨⟨c1, d1⟩, hp1⟩ : ∃ p, l[j]? = some p := ⟨_, List.getElem?_eq_getElem (by omega)⟩
  obtain ⟨⟨x, y⟩, hp2⟩ : ∃ p, l[j + 1]? = some p := ⟨_, List.getElem?_eq_getElem (by omega)⟩
  have v0 := isP_bd (ln_pt hln (j := j - 1) (by omega)); have v1 := isP_bd (ln_pt hln (j := j) (by omega)); have v2 := isP_bd (ln_pt hln (j := j + 1) (by omega))
  rw [ptA_get hp0] at v0; rw [ptA_get hp1] at v1; rw [ptA_get hp2] at v2
  dsimp only at v0 v1 v2
  obtain ⟨u, hu⟩ : ∃ u, (c1 - a) * (y - b) - (d1 - b) * (x - a) = u := ⟨_, rfl⟩
  have hub : -80000 ≤ u ∧ u ≤ 80000 := by
    have m1 := mul_bd (u := c1 - a) (v := y - b) (by omega) (by omega) (by omega) (by omega)
    have m2 := mul_bd (u := d1 - b) (v := x - a) (by omega) (by omega) (by omega) (by omega)
    omega
  have HU := Lib.hid hu
  have HR : Hid (max u (-u) = z) := Lib.hid (by
    rw [← HZ.out, crnV_yes hi, Int.toNat_natCast]
    unfold crnJ crsD
    rw [ptA_get hp0, ptA_get hp1, ptA_get hp2]
    dsimp only
    rw [hu])
  obtain ⟨bb, off, rfl, hbl, -⟩ := HS.out j _ hp1
  obtain ⟨q0, q1⟩ := cellsPoint HS.out hp0
  obtain ⟨q2, q3⟩ := cellsPoint HS.out hp1
  obtain ⟨q4, q5⟩ := cellsPoint HS.out hp2
  obtain ⟨i', hi'⟩ : ∃ i', j - 1 = i' := ⟨_, rfl⟩
  rw [hi'] at q0 q1
  obtain ⟨k, hk⟩ : ∃ k, j + 1 = k := ⟨_, rfl⟩
  rw [hk] at q4 q5
  have e0 : (j : Int) - 1 = (i' : Int) := by omega
  have e1 : (j : Int) + 1 = (k : Int) := by omega
  have c0 : (i' : Int) < (l.length : Int) := by omega
  have c2 : (j : Int) < (l.length : Int) := by omega
  have c3 : (k : Int) < (l.length : Int) := by omega
  have hw0 : IntKind.i64.wrap (j : Int) = (j : Int) := by rw [IntKind.wrap_i64]; omega
  have hw1 : IntKind.i64.wrap (k : Int) = (k : Int) := by rw [IntKind.wrap_i64]; omega
  have hw3 : IntKind.i64.wrap (i' : Int) = (i' : Int) := by rw [IntKind.wrap_i64]; omega
  have HQ : Hid (∀ W, Below w.heap.size w W → (W.cell? ⟨bb, off + i' * 2, none⟩ = some (.int .i64 a) ∧ W.cell? ⟨bb, off + i' * 2 + 1, none⟩ = some (.int .i64 b)) ∧ (W.cell? ⟨bb, off + j * 2, none⟩ = some (.int .i64 c1) ∧ W.cell? ⟨bb, off + j * 2 + 1, none⟩ = some (.int .i64 d1)) ∧ (W.cell? ⟨bb, off + k * 2, none⟩ = some (.int .i64 x) ∧ W.cell? ⟨bb, off + k * 2 + 1, none⟩ = some (.int .i64 y))) := Lib.hid fun W hW => by
    have q := fun o => hW.cell (p := ⟨bb, o, none⟩) hbl
    exact ⟨⟨(q _).trans q0, (q _).trans q1⟩, ⟨(q _).trans q2, (q _).trans q3⟩, (q _).trans q4, (q _).trans q5⟩
  clear hu hp0 hp1 hp2 q0 q1 q2 q3 q4 q5 hi' hk hi hln
  go_wp2_with fail
  refine (isCorner_is _ c l _ _ _ HS.out hl HM.out).mono ?_
  rintro e w1 ⟨rfl, hb1⟩
  have HB1 := Lib.hid hb1
  have HBd := Lib.hid hb1.drew
  clear hb1
  go_upto_region 3 with fail
  go_cut [5] (fun v wx => v = .int .i64 u ∧ Hid (Below w.heap.size w wx))
  case first =>
    go_region_held3 (fun W => (W.cell? ⟨bb, off + i' * 2, none⟩ = some (.int .i64 a) ∧ W.cell? ⟨bb, off + i' * 2 + 1, none⟩ = some (.int .i64 b)) ∧ (W.cell? ⟨bb, off + j * 2, none⟩ = some (.int .i64 c1) ∧ W.cell? ⟨bb, off + j * 2 + 1, none⟩ = some (.int .i64 d1)) ∧ (W.cell? ⟨bb, off + k * 2, none⟩ = some (.int .i64 x) ∧ W.cell? ⟨bb, off + k * 2 + 1, none⟩ = some (.int .i64 y)))
      (first | exact HQ.out _ HB1.out | exact HQ.out _ HBd.out | exact HQ.out _ HB9.out) (first
      | (go_at_call 66; (with_reducible refine (signed_is a b c1 d1 x y u _ v0 v1 v2 HU.out).mono ?_); rintro e w9 ⟨rfl, hb9⟩; have HB9 := Lib.hid (HBd.out.trans (hb9.mono HBd.out.size))) | fail)
    all_goals
      go_wp2_with fail
      go_meet
      exact ⟨rfl, HB9⟩
  case rest =>
  obtain ⟨rfl, HB⟩ := hcut
  go_wp2_with fail
  refine (maxB u (-u) _).mono ?_
  rintro e w3 ⟨rfl, hb3⟩
  go_wp2
  go_ret
  exact ⟨ret_int HR.out, HB.out.trans (hb3.mono HB.out.size)⟩
set_option maxRecDepth 100000 in
set_option maxHeartbeats 4000000 in
theorem dropPoint_any (A : Option Addr) (c : Nat) (l : List (Int × Int)) (i : Int) (w : World) (hs : SeesE 2 encPoint w w.heap.size A l) (hl : l.length ≤ 274877906944) (hlc : l.length ≤ c) (hc : (c : Int) ≤ 9223372036854775807) :
    Calls Try.prog 48 #[.slice A l.length c, .int .i64 i] w (DropOf l i w) := by
  have HS := Lib.hid hs; clear hs
  go_enter Try.func48, Try.ntmps48
  cases hi : midB l i
  · have hk := dropOk_no hi
    go_wp2_with fail
    refine (isCorner_is A c l i _ _ HS.out (by omega) hi).mono ?_
    rintro e w1 ⟨rfl, hb1⟩
    have HS1 := Lib.hid (HS.out.belowAll hb1)
    go_wp2_with fail
    refine (clone_any A c l _ HS1.out (by omega)).mono ?_
    rintro e w2 ⟨A4, c4, L4, hL4, rfl, ho4, hb4⟩
    go_wp2
    go_ret2
    exact ⟨A4, c4, L4, false, Lib.hid (by rw [hL4.out, dropV_no hk]), Lib.hid hk.symm, rfl, ho4.mono hb1.size, hb1.trans (hb4.mono hb1.size)⟩
  have HM := Lib.hid hi
  obtain ⟨hln, j, rfl, hj1, hj2⟩ := midB_at hi
  have h10 := (isLn_yes hln).2.1
  clear hi hln
  have b0 : (0 : Int) ≤ (j : Int) := by omega
  have b1 : ¬ ((j : Int) < 0) := by omega
  have b2 : ¬ ((c : Int) < (j : Int)) := by omega
  have b3 : (j : Int) ≤ (c : Int) := by omega
  have b4 : (j : Int) ≤ (l.length : Int) := by omega
  have b5 : (0 : Int) ≤ (j : Int) + 1 := by omega
  have b6 : ¬ ((j : Int) + 1 < 0) := by omega
  have b7 : (j : Int) + 1 ≤ (l.length : Int) := by omega
  have b8 : ¬ ((l.length : Int) < (j : Int) + 1) := by omega
  have b9 : (l.length : Int) ≤ (c : Int) := by omega
  have hw0 : IntKind.i64.wrap (j : Int) = (j : Int) := by rw [IntKind.wrap_i64]; omega
  have hw1 : IntKind.i64.wrap ((j : Int) + 1) = (j : Int) + 1 := by rw [IntKind.wrap_i64]; omega
  go_wp2_with fail
  refine (isCorner_is A c l _ _ _ HS.out (by omega) HM.out).mono ?_
  rintro e w1 ⟨rfl, hb1⟩
  have HS1 := Lib.hid (HS.out.belowAll hb1)
  have HB1 := Lib.hid hb1
  clear hb1
  have hlc' : ¬ (c = j + 1) := by omega
  have HT : Hid (SeesE 2 encPoint w1 w1.heap.size A (l.take j)) := Lib.hid (HS1.out.pre j)
  have HA : Hid (SeesE 2 encPoint w1 w1.heap.size (if c = j + 1 then A else Option.map (fun x => x.add ((j + 1) * 2)) A) (l.drop (j + 1))) := Lib.hid (HS1.out.suf (j + 1) _ (fun _ => if_neg hlc'))
  have E1 : Hid ((l.take j).length = j) := Lib.hid (by simp; omega)
  have E2 : Hid ((l.drop (j + 1)).length = l.length - (j + 1)) := Lib.hid (by simp)
  clear hlc'
  go_upto_region 3 with fail
  go_region_held3 (fun _ => True) (trivial) (first | (go_at_call 104; refine (concat_at w1.heap.size j (l.length - (j + 1)) A _ c (c - (j + 1)) (l.take j) (l.drop (j + 1)) _ E1.out E2.out (cell_of_row _ _ 0 _ _ (0, 0) (heap_alloc_new w1 _)) (cell_of_row _ _ 1 _ _ (0, 0) (heap_alloc_new w1 _)) (HT.out.alloc (Nat.le_refl _) _ |>.drew |>.mono (by simp)) (HA.out.alloc (Nat.le_refl _) _ |>.drew |>.mono (by simp)) (by omega) (by omega)).mono ?_; rintro e w5 ⟨A5, c5, L5, hL5, rfl, ho5, hb5⟩; have HO5 := Lib.hid (ho5.mono (C := w.heap.size) (by have := HB1.out.size; simp; omega)); have HB5 := Lib.hid ((HB1.out.alloc HB1.out.size _).drew.trans (hb5.mono (by have := HB1.out.size; simp; omega))); have HL5 := hL5) | fail)
  all_goals
    have HD : Hid (L5 = dropL l j) := Lib.hid (by rw [HL5.out]; rfl)
    have hl5 : L5.length ≤ 1099511627776 := by rw [HD.out, dropL_len (by omega)]; omega
    have HS5 := Lib.hid (HS.out.belowAll HB5.out)
    have hz5 := HB5.out.size
    cases h5 : isLn L5
    · have hk : dropOk l (j : Int) = false := by unfold dropOk; rw [HM.out, Int.toNat_natCast, ← HD.out, h5]; rfl
      go_wp2_with fail
      refine (isLine_is A5 c5 L5 _ (HO5.out.sees elPoint) hl5 _ h5).mono ?_
      rintro e w6 ⟨rfl, hb6⟩
      have HS6 := Lib.hid (HS5.out.belowAll hb6)
      have HB6 := Lib.hid (HB5.out.trans (hb6.mono hz5))
      go_wp2_with fail
      refine (clone_any A c l _ HS6.out (by omega)).mono ?_
      rintro e w7 ⟨A7, c7, L7, hL7, rfl, ho7, hb7⟩
      go_wp2
      go_ret2
      exact ⟨A7, c7, L7, false, Lib.hid (by rw [hL7.out, dropV_no hk]), Lib.hid hk.symm, rfl, ho7.mono HB6.out.size, HB6.out.trans (hb7.mono HB6.out.size)⟩
    · have hk : dropOk l (j : Int) = true := by unfold dropOk; rw [HM.out, Int.toNat_natCast, ← HD.out, h5]; rfl
      go_wp2_with fail
      refine (isLine_is A5 c5 L5 _ (HO5.out.sees elPoint) hl5 _ h5).mono ?_
      rintro e w6 ⟨rfl, hb6⟩
      go_wp2
      go_ret2
      exact ⟨A5, c5, L5, true, Lib.hid (by rw [HD.out, dropV_yes hk, Int.toNat_natCast]), Lib.hid hk.symm, rfl, HO5.out.belowAll hb6, HB5.out.trans (hb6.mono hz5)⟩
end Go.Proofs.Ytbnjaaegbmhopaa
