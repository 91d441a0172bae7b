/- Boxes: what two boxes cover, what they share, IsBox, InBox and BoxOf, in package impl. -/
import Derived.Test.YtjnbdbgkecfkcabBoxP
import Derived.Test.YtjnbdbgkecfkcabPoint2
namespace Go.Proofs.Ytjnbdbgkecfkcab
open Go.ChangeShapes Go.WideShapes Go.ChangeAt Go.RowKit
set_option linter.unusedVariables false

theorem cover_any (a b c d p q r s : Int) (w : World) :
    Calls Try.prog 29 #[SegV a b c d, SegV p q r s] w fun e w' => e = .returned (SegV (min a p) (min b q) (max c r) (max d s)) ∧ Below w.heap.size w w' := by
  have HB := Lib.hid (Vars.of3 w (SegC a b c d) (SegC p q r s) (SegC 0 0 0 0) 29 29 29)
  go_enter Try.func29, Try.ntmps29
  go_wp2_with fail
  refine (pick_lo a b c d p q r s _).mono ?_
  rintro e w1 ⟨rfl, hb1⟩
  have HB1 := Lib.hid (HB.out.next hb1)
  clear hb1 HB
  obtain ⟨j0, j1, j2, j3⟩ := HB1.out.c42
  obtain ⟨f0, f1, f2, f3⟩ := HB1.out.fr42
  go_wp2
  refine bodyPost_ret (v := SegV (min a p) (min b q) (max c r) (max d s)) (by simp [results, Try.results29, go_sem, j0, j1, j2, j3]) rfl ?_
  exact ⟨rfl, HB1.out.set40 (by omega) _ _ _ _⟩
theorem share_any (a b c d p q r s : Int) (w : World) :
    Calls Try.prog 21 #[SegV a b c d, SegV p q r s] w fun e w' => e = .returned (SegV (max a p) (max b q) (min c r) (min d s)) ∧ Below w.heap.size w w' := by
  have HB := Lib.hid (Vars.of3 w (SegC a b c d) (SegC p q r s) (SegC 0 0 0 0) 29 29 29)
  go_enter Try.func21, Try.ntmps21
  go_wp2_with fail
  refine (pick_hi a b c d p q r s _).mono ?_
  rintro e w1 ⟨rfl, hb1⟩
  have HB1 := Lib.hid (HB.out.next hb1)
  clear hb1 HB
  obtain ⟨j0, j1, j2, j3⟩ := HB1.out.c42
  obtain ⟨f0, f1, f2, f3⟩ := HB1.out.fr42
  go_wp2
  refine bodyPost_ret (v := SegV (max a p) (max b q) (min c r) (min d s)) (by simp [results, Try.results21, go_sem, j0, j1, j2, j3]) rfl ?_
  exact ⟨rfl, HB1.out.set40 (by omega) _ _ _ _⟩
/-- Does no number of Low exceed that of High? -/
def ordB (a b c d : Int) : Bool := decide (a ≤ c) && decide (b ≤ d)
theorem ord_is (a b c d : Int) (z : Bool) (w : World) (hz : ordB a b c d = z) :
    Calls Try.prog 32 #[SegV a b c d] w fun e w' => e = .returned (.bool z) ∧ Below w.heap.size w w' := by
  have HB := Lib.hid (Vars.of1 w (SegC a b c d) 29)
  have HZ := Lib.hid hz
  clear hz
  go_enter Try.func32, Try.ntmps32
  go_wp2
  all_goals
    go_ret
    refine ⟨ret_eq ?_, HB.out.1⟩
    rw [← HZ.out]
    rw [Bool.eq_iff_iff]
    simp only [ordB, Bool.and_eq_true, decide_eq_true_eq, Bool.false_eq_true, false_iff, not_and]
    first | omega | grind
theorem isBx_eq (a b c d : Int) : isBx a b c d = (isP2 a b c d && ordB a b c d) := by simp [isBx, isP2, ordB, Bool.and_assoc]
theorem isBox_is (a b c d : Int) (z : Bool) (w : World) (hz : isBx a b c d = z) :
    Calls Try.prog 24 #[SegV a b c d] w fun e w' => e = .returned (.bool z) ∧ Below w.heap.size w w' := by
  rw [isBx_eq] at hz
  have he : allP [(a, b), (c, d)] = isP2 a b c d := by simp [allP, isP2]
  go_enter Try.func24, Try.ntmps24
  cases h : isP2 a b c d
  · have hx : allP [(a, b), (c, d)] = false := he.trans h
    obtain rfl : false = z := by rw [← hz, h]; rfl
    clear he h hz
    go_wp2_with fail
    refine (arePoints_any _ _ [(a, b), (c, d)] _ (seesP_new _ _ _ _ _ _ (by rfl) (by simp) (by simp)) (by simp)).mono ?_
    rintro e w1 ⟨rfl, hb1⟩
    have HB := Lib.hid (((Vars.of1 w (SegC a b c d) 29).al _).next hb1)
    clear hb1
    go_wp2
    go_ret
    exact ⟨rfl, HB.out.1⟩
  · have hx : allP [(a, b), (c, d)] = true := he.trans h
    have hz' : ordB a b c d = z := by rw [← hz, h]; rfl
    have HZ := Lib.hid hz'
    clear he h hz hz'
    go_wp2_with fail
    refine (arePoints_any _ _ [(a, b), (c, d)] _ (seesP_new _ _ _ _ _ _ (by rfl) (by simp) (by simp)) (by simp)).mono ?_
    rintro e w1 ⟨rfl, hb1⟩
    have HB := Lib.hid (((Vars.of1 w (SegC a b c d) 29).al _).next hb1)
    clear hb1
    obtain ⟨k0, k1, k2, k3⟩ := HB.out.c40
    go_wp2_with fail
    refine (ord_is a b c d z _ HZ.out).mono ?_
    rintro e w2 ⟨rfl, hb2⟩
    have HB2 := Lib.hid (HB.out.next hb2)
    clear hb2
    go_wp2
    go_ret
    exact ⟨rfl, HB2.out.1⟩
set_option maxHeartbeats 1000000 in
theorem inBox_is (a b c d x y : Int) (z : Bool) (w : World) (hz : inBx a b c d x y = z) :
    Calls Try.prog 12 #[SegV a b c d, PtV x y] w fun e w' => e = .returned (.bool z) ∧ Below w.heap.size w w' := by
  have HB := Lib.hid (Vars.of2 w (SegC a b c d) (PtC x y) 29 27)
  have HZ := Lib.hid hz
  clear hz
  go_enter Try.func12, Try.ntmps12
  obtain ⟨k0, k1, k2, k3, k4, k5⟩ := HB.out.c42p
  cases hu : isBx a b c d
  · go_wp2_with fail
    refine (isBox_is a b c d false _ hu).mono ?_
    rintro e w1 ⟨rfl, hb1⟩
    have HB1 := Lib.hid (HB.out.next hb1)
    clear hb1
    go_wp2
    go_ret
    exact ⟨ret_eq ((inBx_1 hu).symm.trans HZ.out), HB1.out.1⟩
  · go_wp2_with fail
    refine (isBox_is a b c d true _ hu).mono ?_
    rintro e w1 ⟨rfl, hb1⟩
    have HB1 := Lib.hid (HB.out.next hb1)
    clear hb1 k0 k1 k2 k3 k4 k5
    obtain ⟨k0, k1, k2, k3, k4, k5⟩ := HB1.out.c42p
    cases hv : inB x a c
    · go_wp2_with fail
      refine (in_is _ _ _ _ _ hv).mono ?_
      rintro e w2 ⟨rfl, rfl⟩
      go_wp2
      go_ret
      exact ⟨ret_eq ((inBx_2 hv).symm.trans HZ.out), HB1.out.1⟩
    · go_wp2_with fail
      refine (in_is _ _ _ _ _ hv).mono ?_
      rintro e w2 ⟨rfl, rfl⟩
      go_wp2_with fail
      refine (in_is _ _ _ z _ ((inBx_3 hu hv).symm.trans HZ.out)).mono ?_
      rintro e w3 ⟨rfl, rfl⟩
      go_wp2
      go_ret
      exact ⟨rfl, HB1.out.1⟩
theorem SeesP.tail {w : World} {B b off : Nat} {x y : Int} {t : List (Int × Int)} (h : SeesP w B (some ⟨b, off, none⟩) ((x, y) :: t)) : SeesP w B (some ⟨b, off + 2, none⟩) t := fun j u v hj => by
  obtain ⟨b', off', e, hlt, h1, h2⟩ := h (j + 1) u v (by simpa using hj)
  simp only [Option.some.injEq, Addr.mk.injEq, and_true] at e
  obtain ⟨rfl, rfl⟩ := e
  exact ⟨_, _, rfl, hlt, by rw [show off + 2 + j * 2 = off + (j + 1) * 2 by omega]; exact h1, by rw [show off + 2 + j * 2 = off + (j + 1) * 2 by omega]; exact h2⟩
theorem SeesP.first {w : World} {B : Nat} {A : Option Addr} {x y : Int} {t : List (Int × Int)} (h : SeesP w B A ((x, y) :: t)) : ∃ b off, A = some ⟨b, off, none⟩ ∧ b < B := by
  obtain ⟨b, off, e, hb, _⟩ := h 0 x y rfl
  exact ⟨b, off, e, hb⟩
theorem SeesP.head {w : World} {B b off : Nat} {x y : Int} {t : List (Int × Int)} (h : SeesP w B (some ⟨b, off, none⟩) ((x, y) :: t)) : w.cell? ⟨b, off, none⟩ = some (.int .i64 x) ∧ w.cell? ⟨b, off + 1, none⟩ = some (.int .i64 y) := by
  obtain ⟨b', off', e, _, h1, h2⟩ := h 0 x y rfl
  simp only [Option.some.injEq, Addr.mk.injEq, and_true] at e
  obtain ⟨rfl, rfl⟩ := e
  exact ⟨by simpa using h1, by simpa using h2⟩
theorem SeesP.at2 {w : World} {B b off j : Nat} {x y : Int} {t : List (Int × Int)} (h : SeesP w B (some ⟨b, off, none⟩) t) (hj : t[j]? = some (x, y)) : w.cell? ⟨b, off + j * 2, none⟩ = some (.int .i64 x) ∧ w.cell? ⟨b, off + j * 2 + 1, none⟩ = some (.int .i64 y) := by
  obtain ⟨b', off', e, _, h1, h2⟩ := h j x y hj
  simp only [Option.some.injEq, Addr.mk.injEq, and_true] at e
  obtain ⟨rfl, rfl⟩ := e
  exact ⟨h1, h2⟩
theorem boxOf_ps {x y : Int} {t : List (Int × Int)} : boxOfV ((x, y) :: t) = if allP ((x, y) :: t) then (t.foldl bxF (x, y, x, y), true) else ((0, 0, 0, 0), false) := by
  have hb : bxF (x, y, x, y) (x, y) = (x, y, x, y) := by simp [bxF]
  simp only [boxOfV, List.foldl_cons, hb]; rfl
end Go.Proofs.Ytjnbdbgkecfkcab
