/- Boxes: what two boxes cover, what they share, IsBox, InBox and BoxOf, in package impl. -/
import Derived.Test.YtbnjaaegbmhopaaGreatDoorBoxP
import Derived.Test.YtbnjaaegbmhopaaGreatDoorPoint2
namespace Go.Proofs.YtbnjaaegbmhopaaGreatDoor
open Go.ChangeShapes Go.WideShapes Go.ChangeAt Go.RowKit
set_option linter.unusedVariables false

theorem cover_any (a b c d p q r s : Int) (w : World) :
    Calls Tryz.prog 164 #[SegV a b c d, SegV p q r s] w fun e w' => e = .returned (SegV (min a p) (min b q) (max c r) (max d s)) ∧ Below w.heap.size w w' := by
  have HB := Lib.hid (Vars.of3 w (SegC a b c d) (SegC p q r s) (SegC 0 0 0 0) 123 123 123)
  go_enter Tryz.func164, Tryz.ntmps164
  go_wp2_with fail
  refine (pick_lo a b c d p q r s _).mono ?_
  rintro e w1 ⟨rfl, hb1⟩
  have HB1 := Lib.hid (HB.out.next hb1)
  clear hb1 HB
  obtain ⟨j0, j1, j2, j3⟩ := HB1.out.c42
  obtain ⟨f0, f1, f2, f3⟩ := HB1.out.fr42
  go_wp2
  refine bodyPost_ret (v := SegV (min a p) (min b q) (max c r) (max d s)) (by simp [results, Tryz.results164, go_sem, j0, j1, j2, j3]) rfl ?_
  exact ⟨rfl, HB1.out.set40 (by omega) _ _ _ _⟩
theorem share_any (a b c d p q r s : Int) (w : World) :
    Calls Tryz.prog 129 #[SegV a b c d, SegV p q r s] w fun e w' => e = .returned (SegV (max a p) (max b q) (min c r) (min d s)) ∧ Below w.heap.size w w' := by
  have HB := Lib.hid (Vars.of3 w (SegC a b c d) (SegC p q r s) (SegC 0 0 0 0) 123 123 123)
  go_enter Tryz.func129, Tryz.ntmps129
  go_wp2_with fail
  refine (pick_hi a b c d p q r s _).mono ?_
  rintro e w1 ⟨rfl, hb1⟩
  have HB1 := Lib.hid (HB.out.next hb1)
  clear hb1 HB
  obtain ⟨j0, j1, j2, j3⟩ := HB1.out.c42
  obtain ⟨f0, f1, f2, f3⟩ := HB1.out.fr42
  go_wp2
  refine bodyPost_ret (v := SegV (max a p) (max b q) (min c r) (min d s)) (by simp [results, Tryz.results129, go_sem, j0, j1, j2, j3]) rfl ?_
  exact ⟨rfl, HB1.out.set40 (by omega) _ _ _ _⟩
/-- Does no number of Low exceed that of High? -/
def ordB (a b c d : Int) : Bool := decide (a ≤ c) && decide (b ≤ d)
theorem ord_is (a b c d : Int) (z : Bool) (w : World) (hz : ordB a b c d = z) :
    Calls Tryz.prog 130 #[SegV a b c d] w fun e w' => e = .returned (.bool z) ∧ Below w.heap.size w w' := by
  have HB := Lib.hid (Vars.of1 w (SegC a b c d) 123)
  have HZ := Lib.hid hz
  clear hz
  go_enter Tryz.func130, Tryz.ntmps130
  go_wp2
  all_goals
    go_ret
    refine ⟨ret_eq ?_, HB.out.1⟩
    rw [← HZ.out]
    rw [Bool.eq_iff_iff]
    simp only [ordB, Bool.and_eq_true, decide_eq_true_eq, Bool.false_eq_true, false_iff, not_and]
    first | omega | grind
theorem isBx_eq (a b c d : Int) : isBx a b c d = (isP2 a b c d && ordB a b c d) := by simp [isBx, isP2, ordB, Bool.and_assoc]
theorem isBox_is (a b c d : Int) (z : Bool) (w : World) (hz : isBx a b c d = z) :
    Calls Tryz.prog 123 #[SegV a b c d] w fun e w' => e = .returned (.bool z) ∧ Below w.heap.size w w' := by
  rw [isBx_eq] at hz
  have he : allP [(a, b), (c, d)] = isP2 a b c d := by simp [allP, isP2]
  go_enter Tryz.func123, Tryz.ntmps123
  cases h : isP2 a b c d
  · have hx : allP [(a, b), (c, d)] = false := he.trans h
    obtain rfl : false = z := by rw [← hz, h]; rfl
    clear he h hz
    go_wp2_with fail
    refine (arePoints_any _ _ [(a, b), (c, d)] _ (seesP_new _ _ _ _ _ _ (by rfl) (by simp) (by simp)) (by simp)).mono ?_
    rintro e w1 ⟨rfl, hb1⟩
    have HB := Lib.hid (((Vars.of1 w (SegC a b c d) 123).al _).next hb1)
    clear hb1
    go_wp2
    go_ret
    exact ⟨rfl, HB.out.1⟩
  · have hx : allP [(a, b), (c, d)] = true := he.trans h
    have hz' : ordB a b c d = z := by rw [← hz, h]; rfl
    have HZ := Lib.hid hz'
    clear he h hz hz'
    go_wp2_with fail
    refine (arePoints_any _ _ [(a, b), (c, d)] _ (seesP_new _ _ _ _ _ _ (by rfl) (by simp) (by simp)) (by simp)).mono ?_
    rintro e w1 ⟨rfl, hb1⟩
    have HB := Lib.hid (((Vars.of1 w (SegC a b c d) 123).al _).next hb1)
    clear hb1
    obtain ⟨k0, k1, k2, k3⟩ := HB.out.c40
    go_wp2_with fail
    refine (ord_is a b c d z _ HZ.out).mono ?_
    rintro e w2 ⟨rfl, hb2⟩
    have HB2 := Lib.hid (HB.out.next hb2)
    clear hb2
    go_wp2
    go_ret
    exact ⟨rfl, HB2.out.1⟩
set_option maxHeartbeats 1000000 in
theorem inBox_is (a b c d x y : Int) (z : Bool) (w : World) (hz : inBx a b c d x y = z) :
    Calls Tryz.prog 90 #[SegV a b c d, PtV x y] w fun e w' => e = .returned (.bool z) ∧ Below w.heap.size w w' := by
  have HB := Lib.hid (Vars.of2 w (SegC a b c d) (PtC x y) 123 33)
  have HZ := Lib.hid hz
  clear hz
  go_enter Tryz.func90, Tryz.ntmps90
  obtain ⟨k0, k1, k2, k3, k4, k5⟩ := HB.out.c42p
  cases hu : isBx a b c d
  · go_wp2_with fail
    refine (isBox_is a b c d false _ hu).mono ?_
    rintro e w1 ⟨rfl, hb1⟩
    have HB1 := Lib.hid (HB.out.next hb1)
    clear hb1
    go_wp2
    go_ret
    exact ⟨ret_eq ((inBx_1 hu).symm.trans HZ.out), HB1.out.1⟩
  · go_wp2_with fail
    refine (isBox_is a b c d true _ hu).mono ?_
    rintro e w1 ⟨rfl, hb1⟩
    have HB1 := Lib.hid (HB.out.next hb1)
    clear hb1 k0 k1 k2 k3 k4 k5
    obtain ⟨k0, k1, k2, k3, k4, k5⟩ := HB1.out.c42p
    cases hv : inB x a c
    · go_wp2_with fail
      refine (in_is _ _ _ _ _ hv).mono ?_
      rintro e w2 ⟨rfl, rfl⟩
      go_wp2
      go_ret
      exact ⟨ret_eq ((inBx_2 hv).symm.trans HZ.out), HB1.out.1⟩
    · go_wp2_with fail
      refine (in_is _ _ _ _ _ hv).mono ?_
      rintro e w2 ⟨rfl, rfl⟩
      go_wp2_with fail
      refine (in_is _ _ _ z _ ((inBx_3 hu hv).symm.trans HZ.out)).mono ?_
      rintro e w3 ⟨rfl, rfl⟩
      go_wp2
      go_ret
      exact ⟨rfl, HB1.out.1⟩
theorem SeesP.tail {w : World} {B b off : Nat} {x y : Int} {t : List (Int × Int)} (h : SeesP w B (some ⟨b, off, none⟩) ((x, y) :: t)) : SeesP w B (some ⟨b, off + 2, none⟩) t := fun j u v hj => by
  obtain ⟨b', off', e, hlt, h1, h2⟩ := h (j + 1) u v (by simpa using hj)
  simp only [Option.some.injEq, Addr.mk.injEq, and_true] at e
  obtain ⟨rfl, rfl⟩ := e
  exact ⟨_, _, rfl, hlt, by rw [show off + 2 + j * 2 = off + (j + 1) * 2 by omega]; exact h1, by rw [show off + 2 + j * 2 = off + (j + 1) * 2 by omega]; exact h2⟩
theorem SeesP.first {w : World} {B : Nat} {A : Option Addr} {x y : Int} {t : List (Int × Int)} (h : SeesP w B A ((x, y) :: t)) : ∃ b off, A = some ⟨b, off, none⟩ ∧ b < B := by
  obtain ⟨b, off, e, hb, _⟩ := h 0 x y rfl
  exact ⟨b, off, e, hb⟩
theorem SeesP.head {w : World} {B b off : Nat} {x y : Int} {t : List (Int × Int)} (h : SeesP w B (some ⟨b, off, none⟩) ((x, y) :: t)) : w.cell? ⟨b, off, none⟩ = some (.int .i64 x) ∧ w.cell? ⟨b, off + 1, none⟩ = some (.int .i64 y) := by
  obtain ⟨b', off', e, _, h1, h2⟩ := h 0 x y rfl
  simp only [Option.some.injEq, Addr.mk.injEq, and_true] at e
  obtain ⟨rfl, rfl⟩ := e
  exact ⟨by simpa using h1, by simpa using h2⟩
theorem SeesP.at2 {w : World} {B b off j : Nat} {x y : Int} {t : List (Int × Int)} (h : SeesP w B (some ⟨b, off, none⟩) t) (hj : t[j]? = some (x, y)) : w.cell? ⟨b, off + j * 2, none⟩ = some (.int .i64 x) ∧ w.cell? ⟨b, off + j * 2 + 1, none⟩ = some (.int .i64 y) := by
  obtain ⟨b', off', e, _, h1, h2⟩ := h j x y hj
  simp only [Option.some.injEq, Addr.mk.injEq, and_true] at e
  obtain ⟨rfl, rfl⟩ := e
  exact ⟨h1, h2⟩
theorem boxOf_ps {x y : Int} {t : List (Int × Int)} : boxOfV ((x, y) :: t) = if allP ((x, y) :: t) then (t.foldl bxF (x, y, x, y), true) else ((0, 0, 0, 0), false) := by
  have hb : bxF (x, y, x, y) (x, y) = (x, y, x, y) := by simp [bxF]
  simp only [boxOfV, List.foldl_cons, hb]; rfl
theorem arePoints_at (n : Nat) (A : Option Addr) (c : Nat) (ps : List (Int × Int)) (z : Bool) (w : World) (e : ps.length = n) (hs : SeesP w w.heap.size A ps) (hl : n ≤ 17592186044416) (hz : allP ps = z) :
    Calls Tryz.prog 54 #[.slice A n c] w fun e w' => e = .returned (.bool z) ∧ Below w.heap.size w w' := by
  subst e hz; exact arePoints_any A c ps w hs hl
set_option maxRecDepth 100000 in
set_option maxHeartbeats 2000000 in
theorem boxOf_ps_is (A : Option Addr) (k : Nat) (l : List (Int × Int)) (r : BxR) (w : World) (hs : SeesP w w.heap.size A l) (hl : l.length ≤ 1099511627776) (hlc : l.length ≤ k) (hc : (k : Int) ≤ 9223372036854775807) (hr : boxOfV l = r) :
    Calls Tryz.prog 151 #[.slice A l.length k] w fun e w' => e = .returned (bxV r) ∧ Below w.heap.size w w' := by
  have HS := Lib.hid hs
  have HR := Lib.hid hr
  clear hs hr
  have HB := Lib.hid (Vars.of1 w (SegC 0 0 0 0) 123)
  obtain ⟨k0, k1, k2, k3⟩ := HB.out.c40
  obtain ⟨f0, f1, f2, f3⟩ : _ ∧ _ ∧ _ ∧ _ := ⟨HB.out.frz0 0, HB.out.frz0 1, HB.out.frz0 2, HB.out.frz0 3⟩
  go_enter Tryz.func151, Tryz.ntmps151
  match l with
  | [] =>
    go_wp2
    refine bodyPost_ret (v := bxV ((0, 0, 0, 0), false)) (by simp [results, Tryz.results151, go_sem, k0, k1, k2, k3]) rfl ?_
    exact ⟨ret_bx (by rw [← HR.out]; rfl), HB.out.1⟩
  | (x, y) :: t =>
    obtain ⟨b, off, rfl, hb⟩ := HS.out.first
    obtain ⟨n, hn⟩ : ∃ n, ((x, y) :: t).length = n := ⟨_, rfl⟩
    have hn1 : 0 < n := by rw [← hn]; simp
    have HN := Lib.hid hn
    have HT : Hid (t.length = n - 1) := Lib.hid (by rw [← hn]; simp)
    have HSB : Hid (SeesP (w.alloc (.cells (SegC 0 0 0 0) 123)) (w.alloc (.cells (SegC 0 0 0 0) 123)).heap.size (some ⟨b, off, none⟩) ((x, y) :: t)) := Lib.hid (by
      intro j u v hj
      obtain ⟨b', off', e, hlt, h⟩ := (HS.out.below HB.out.1) j u v hj
      exact ⟨b', off', e, by simp; omega, h⟩)
    rw [hn] at hl hlc ⊢
    clear hn
    have b0 : ¬ ((n : Int) = 0) := by omega
    have b1 : ¬ ((n : Int) < 1) := by omega
    have b2 : (1 : Int) ≤ (n : Int) := by omega
    have b3 : (0 : Int) < (n : Int) := by omega
    cases ha : allP ((x, y) :: t)
    · have HA := Lib.hid ha
      clear ha
      go_wp2_with fail
      refine (arePoints_at n _ _ _ false _ HN.out HSB.out (by omega) HA.out).mono ?_
      rintro e w1 ⟨rfl, hb1⟩
      have HB1 := Lib.hid (HB.out.next hb1)
      clear hb1 k0 k1 k2 k3 f0 f1 f2 f3
      obtain ⟨k0, k1, k2, k3⟩ := HB1.out.c40
      obtain ⟨f0, f1, f2, f3⟩ : _ ∧ _ ∧ _ ∧ _ := ⟨HB1.out.frz0 0, HB1.out.frz0 1, HB1.out.frz0 2, HB1.out.frz0 3⟩
      go_wp2
      refine bodyPost_ret (v := bxV ((0, 0, 0, 0), false)) (by simp [results, Tryz.results151, go_sem, k0, k1, k2, k3]) rfl ?_
      exact ⟨ret_bx (by rw [← HR.out, boxOf_ps, HA.out]; rfl), HB1.out.set40 (Nat.le_refl _) _ _ _ _⟩
    · have HE : Hid (boxOfV ((x, y) :: t) = (t.foldl bxF (x, y, x, y), true)) := Lib.hid (by rw [boxOf_ps, ha]; rfl)
      have HA := Lib.hid ha
      clear ha
      go_wp2_with fail
      refine (arePoints_at n _ _ _ true _ HN.out HSB.out (by omega) HA.out).mono ?_
      rintro e w1 ⟨rfl, hb1⟩
      have HB1 := Lib.hid (HB.out.next hb1)
      clear hb1 k0 k1 k2 k3 f0 f1 f2 f3 HB HSB HA
      have q := (HS.out.below HB1.out.1).head
      obtain ⟨q0, q1⟩ := q
      have HQd := Lib.hid (HS.out.below HB1.out.1.drew).head
      have hm1 := HB1.out.more1
      have HQ1 := Lib.hid (HS.out.below ((HB1.out.1.alloc (Nat.le_trans (Nat.le_succ _) hm1) (.cells (SegC x y x y) 123)).drew)).head
      have HQ0 := Lib.hid (HS.out.below ((HB1.out.1.alloc (Nat.le_trans (Nat.le_succ _) hm1) (.cells (SegC 0 0 0 0) 123)).drew)).head
      go_upto_region 3 with fail
      go_cut [4] (fun s4 wx => Hid (∃ bl, s4 = .pointer (some ⟨bl, 0, none⟩) ∧ Vars w wx [SegC 0 0 0 0] ∧ OneV (w.heap.size + 1) wx bl (SegC x y x y)))
      case first =>
        go_region_held3 (fun w' => w'.cell? ⟨b, off, none⟩ = some (.int .i64 x) ∧ w'.cell? ⟨b, off + 1, none⟩ = some (.int .i64 y)) (first | with_reducible exact ⟨q0, q1⟩ | with_reducible exact HQd.out | with_reducible exact HQ1.out | with_reducible exact HQ0.out | fail) (fail)
        all_goals
          go_wp2_with fail
          go_meet
          exact Lib.hid ⟨_, rfl, (HB1.out.al _).drew, (OneV.new _ hm1 _ _).drew⟩
      case rest =>
      obtain ⟨bl, rfl, hv, ho⟩ := hcut.out
      have HV := Lib.hid hv
      have HL := Lib.hid ho
      clear hcut hv ho HB1 hm1 q0 q1 HQd HQ1 HQ0
      go_upto_region 4 with fail
      go_cut [24, 25, 26] (fun s24 s25 s26 wx => Hid (∃ (A' : Option Addr) (c' : Nat), s24 = .slice A' (n - 1) c' ∧ SeesP w w.heap.size A' t) ∧ s25 = .int .i64 ((n - 1 : Nat) : Int) ∧ s26 = .int .i64 0 ∧ wx = wc)
      case first =>
        by_cases hk1 : k = 1
        · subst hk1
          obtain rfl : n = 1 := by omega
          have HZ : Hid (t = []) := Lib.hid (List.eq_nil_of_length_eq_zero HT.out)
          go_wp2
          go_meet
          exact ⟨Lib.hid ⟨_, _, rfl, by rw [HZ.out]; intro j u v hj; simp at hj⟩, rfl, rfl, rfl⟩
        · go_wp2
          go_meet
          exact ⟨Lib.hid ⟨_, _, rfl, HS.out.tail⟩, rfl, rfl, rfl⟩
      case rest =>
      obtain ⟨HC, rfl, rfl, rfl⟩ := hcut
      obtain ⟨A', c', rfl, hst⟩ := HC.out
      have HST := Lib.hid hst
      clear HC hst
      obtain ⟨m, hm⟩ : ∃ m, n - 1 = m := ⟨_, rfl⟩
      have HTm : Hid (t.length = m) := Lib.hid (HT.out.trans hm)
      have hm9 : m ≤ 1099511627776 := by omega
      rw [hm]
      clear hm HT b0 b1 b2 b3 hn1 hlc hl hc
      go_wp2
      go_loopg [26] m (fun g i wr => ∃ (j : Nat) (t0 t1 t2 t3 : Int), j + g = m ∧ i = .int .i64 (j : Int) ∧ Hid ((t0, t1, t2, t3) = (t.take j).foldl bxF (x, y, x, y)) ∧ Hid (Vars w wr [SegC 0 0 0 0]) ∧ Hid (OneV (w.heap.size + 1) wr bl (SegC t0 t1 t2 t3)))
      case atStart => exact ⟨0, x, y, x, y, by omega, rfl, Lib.hid rfl, HV, HL⟩
      case round =>
        obtain ⟨j, t0, t1, t2, t3, hj, rfl, HF, HVr, HLr⟩ := hrel
        clear HV HL
        cases gk with
        | zero =>
          have hlt : ¬ (j : Int) < (m : Int) := by omega
          obtain rfl : j = m := by omega
          have HEE : Hid (boxOfV ((x, y) :: t) = ((t0, t1, t2, t3), true)) := Lib.hid (by rw [HE.out, HF.out, List.take_of_length_le (by rw [HTm.out]; exact Nat.le_refl _)])
          obtain ⟨x0, x1, x2, x3⟩ := HLr.out.c4
          obtain ⟨k0, k1, k2, k3⟩ := HVr.out.c40
          obtain ⟨f0, f1, f2, f3⟩ : _ ∧ _ ∧ _ ∧ _ := ⟨HVr.out.frz0 0, HVr.out.frz0 1, HVr.out.frz0 2, HVr.out.frz0 3⟩
          go_wp2
          refine bodyPost_ret (v := bxV ((t0, t1, t2, t3), true)) (by simp [results, Tryz.results151, go_sem, k0, k1, k2, k3]) rfl ?_
          exact ⟨ret_bx (HEE.out.symm.trans HR.out), HVr.out.set40 (Nat.le_refl _) _ _ _ _⟩
        | succ g =>
          have hlt : (j : Int) < (m : Int) := by omega
          obtain ⟨⟨u, v⟩, hu⟩ : ∃ p, t[j]? = some p := ⟨_, List.getElem?_eq_getElem (by rw [HTm.out]; omega)⟩
          obtain ⟨b', off', rfl, hb', -, -⟩ := HST.out j u v hu
          obtain ⟨q0, q1⟩ := (HST.out.below HVr.out.1).at2 hu
          have HU := Lib.hid hu
          clear hu
          obtain ⟨x0, x1, x2, x3⟩ := (HLr.out.al (.cells (PtC u v) 33)).c4
          go_wp2_with fail
          refine (cover_any t0 t1 t2 t3 u v u v _).mono ?_
          rintro e w9 ⟨rfl, hb9⟩
          have HV9 := Lib.hid ((HVr.out.al (.cells (PtC u v) 33)).next hb9)
          have HL9 := Lib.hid ((HLr.out.al (.cells (PtC u v) 33)).next hb9)
          clear hb9 x0 x1 x2 x3 q0 q1
          obtain ⟨x0, x1, x2, x3⟩ := HL9.out.c4
          obtain ⟨f0, f1, f2, f3⟩ := HL9.out.f4
          go_wp2
          go_roundg g
          case measure => omega
          case rel => exact ⟨j + 1, _, _, _, _, by omega, by go_num, Lib.hid (by rw [bxF_take _ HU.out, ← HF.out]; rfl), Lib.hid ((((HV9.out.put1 HL9.out.le 0 _).put1 HL9.out.le 1 _).put1 HL9.out.le 2 _).put1 HL9.out.le 3 _), Lib.hid (HL9.out.set4 _ _ _ _)⟩
end Go.Proofs.YtbnjaaegbmhopaaGreatDoor
