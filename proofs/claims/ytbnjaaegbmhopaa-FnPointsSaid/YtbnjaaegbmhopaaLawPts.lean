/- The law FnPoints: its walk, for every input. -/
import Derived.Test.YtbnjaaegbmhopaaPoint4
import Derived.Test.YtbnjaaegbmhopaaDrawPt
namespace Go.Proofs.Ytbnjaaegbmhopaa
open Go.ChangeShapes Go.WideShapes Go.ChangeAt Go.RowKit
set_option linter.unusedVariables false

theorem isP3_rot (a b c d x y : Int) : isP3 c d x y a b = isP3 a b c d x y := by
  unfold isP3; cases isP a b <;> cases isP c d <;> cases isP x y <;> rfl
theorem isP3_swap (a b c d x y : Int) : isP3 c d a b x y = isP3 a b c d x y := by
  unfold isP3; cases isP a b <;> cases isP c d <;> cases isP x y <;> rfl
theorem isP2_swap (a b c d : Int) : isP2 c d a b = isP2 a b c d := by
  unfold isP2; cases isP a b <;> cases isP c d <;> rfl
theorem cmp_eq {u v u' v' : Int} (h : u - v = u' - v') : cmpV u v = cmpV u' v' := (cmp_of h).trans (cmp_of rfl).symm
theorem cmp_neg {u v u' v' : Int} (h : u - v = -(u' - v')) : cmpV u v = -cmpV u' v' := by
  rw [cmp_of h, cmp_of (rfl : u' - v' = u' - v')]
  split <;> split <;> (first | omega | (split <;> first | omega | rfl))
theorem side_swap (a b c d x y : Int) : sideV c d a b x y = -sideV a b c d x y := by
  unfold sideV
  rw [isP3_swap]
  split
  · refine cmp_neg ?_
    simp only [Int.sub_mul, Int.mul_sub]
    have e1 := Int.mul_comm a d
    have e2 := Int.mul_comm c b
    have e3 := Int.mul_comm d x
    have e4 := Int.mul_comm b x
    have e5 := Int.mul_comm a b
    have e6 := Int.mul_comm c d
    omega
  · rfl
theorem side_rot (a b c d x y : Int) : sideV c d x y a b = sideV a b c d x y := by
  unfold sideV
  rw [isP3_rot]
  split
  · refine cmp_eq ?_
    simp only [Int.sub_mul, Int.mul_sub]
    have e1 := Int.mul_comm a d
    have e2 := Int.mul_comm c b
    have e3 := Int.mul_comm d x
    have e4 := Int.mul_comm b x
    have e5 := Int.mul_comm a b
    have e6 := Int.mul_comm c d
    have e7 := Int.mul_comm y a
    have e8 := Int.mul_comm y c
    have e9 := Int.mul_comm y x
    omega
  · rfl
theorem side_bd (a b c d x y : Int) : -1 ≤ sideV a b c d x y ∧ sideV a b c d x y ≤ 1 := by
  unfold sideV; split
  · rcases cmp_bd ((c - a) * (y - b)) ((d - b) * (x - a)) with h | h | h <;> omega
  · omega
theorem sq_swap (a c : Int) : (c - a) * (c - a) = (a - c) * (a - c) := by
  rw [show c - a = -(a - c) by omega, Int.neg_mul_neg]
theorem far_comm (a b c d : Int) : farV c d a b = farV a b c d := by
  unfold farV; rw [isP2_swap, sq_swap a c, sq_swap b d]
theorem steps_comm (a b c d : Int) : stepsV c d a b = stepsV a b c d := by
  unfold stepsV
  rw [isP2_swap, ext_sub, ext_sub, ext_sub, ext_sub, show (c - a).natAbs = (a - c).natAbs by omega, show (d - b).natAbs = (b - d).natAbs by omega]
/-- How a distance and the steps stand to each other. -/
def FarOk (f n : Int) : Prop := (f = -1 ∧ n = -1) ∨ (0 ≤ f ∧ f ≤ 80000 ∧ 0 ≤ n ∧ n ≤ 400 ∧ f ≤ n * n ∧ n * n ≤ 2 * f ∧ 0 ≤ n * n ∧ n * n ≤ 160000)
theorem far_ok (a b c d : Int) : FarOk (farV a b c d) (stepsV a b c d) := by
  cases h : isP2 a b c d
  · exact .inl ⟨far_no h, steps_no h⟩
  · refine .inr ?_
    obtain ⟨hA, hC⟩ := isP2_bd h
    rw [far_yes h, steps_yes h, ext_sub, ext_sub, ← abs_sq (a - c), ← abs_sq (b - d)]
    obtain ⟨u, hu⟩ : ∃ u : Nat, u = (a - c).natAbs := ⟨_, rfl⟩
    obtain ⟨v, hv⟩ : ∃ v : Nat, v = (b - d).natAbs := ⟨_, rfl⟩
    rw [← hu, ← hv]
    have hu1 : u ≤ 200 := by omega
    have hv1 : v ≤ 200 := by omega
    clear hu hv hA hC h
    have e : ((u : Int) + v) * ((u : Int) + v) = u * u + v * v + 2 * (u * v) := by
      rw [Int.add_mul, Int.mul_add, Int.mul_add, Int.mul_comm (v : Int) u]; omega
    have m1 := mul_bd (u := u) (v := u) (by omega) (by omega) (by omega) (by omega)
    have m2 := mul_bd (u := v) (v := v) (by omega) (by omega) (by omega) (by omega)
    have m3 := mul_bd (u := u) (v := v) (by omega) (by omega) (by omega) (by omega)
    have n1 : 0 ≤ (u : Int) * u := Int.mul_nonneg (by omega) (by omega)
    have n2 : 0 ≤ (v : Int) * v := Int.mul_nonneg (by omega) (by omega)
    have n3 : 0 ≤ (u : Int) * v := Int.mul_nonneg (by omega) (by omega)
    have sq : 0 ≤ ((u : Int) - v) * ((u : Int) - v) := by rw [← abs_sq]; exact Int.mul_nonneg (by omega) (by omega)
    have e2 : ((u : Int) - v) * ((u : Int) - v) = u * u + v * v - 2 * (u * v) := by
      rw [Int.sub_mul, Int.mul_sub, Int.mul_sub, Int.mul_comm (v : Int) u]; omega
    rw [e]
    omega
theorem mov_back {a b p q : Int} (h : movB a b p q = true) : movB (a + p) (b + q) (-p) (-q) = true ∧ movX (a + p) (b + q) (-p) (-q) = a ∧ movY (a + p) (b + q) (-p) (-q) = b := by
  have h' : movB (a + p) (b + q) (-p) (-q) = true := by
    simp only [movB, Bool.and_eq_true] at h ⊢
    obtain ⟨h1, h2, h3, h4⟩ := h
    have b2 := inB_bd h2
    have b3 := inB_bd h3
    refine ⟨h4, inB_yes (by omega) (by omega), inB_yes (by omega) (by omega), ?_⟩
    rw [show a + p + -p = a by omega, show b + q + -q = b by omega]; exact h1
  obtain ⟨e1, e2, e3⟩ := mov_yes h'
  exact ⟨h', by omega, by omega⟩
/-- The order of two points: one of three. -/
theorem bef_tri (a b c d : Int) : (befV a b c d = true ∧ befV c d a b = false) ∨ (befV a b c d = false ∧ befV c d a b = true) ∨ (befV a b c d = false ∧ befV c d a b = false ∧ a = c ∧ b = d) := by
  unfold befV
  simp only [decide_eq_true_eq, decide_eq_false_iff_not]
  omega
theorem sideOf_is (a b c d x y z : Int) (w : World) (h : sideV a b c d x y = z) :
    Calls Try.prog 16 #[PtV a b, PtV c d, PtV x y] w fun e w' => e = .returned (.int .i64 z) ∧ Below w.heap.size w w' := by
  subst h; exact sideOf_any a b c d x y w
theorem far_is (a b c d z : Int) (w : World) (h : farV a b c d = z) :
    Calls Try.prog 18 #[PtV a b, PtV c d] w fun e w' => e = .returned (.int .i64 z) ∧ Below w.heap.size w w' := by
  subst h; exact farSquared_any a b c d w
theorem steps_is (a b c d z : Int) (w : World) (h : stepsV a b c d = z) :
    Calls Try.prog 19 #[PtV a b, PtV c d] w fun e w' => e = .returned (.int .i64 z) ∧ Below w.heap.size w w' := by
  subst h; exact stepsBetween_any a b c d w
theorem before_is (a b c d : Int) (z : Bool) (w : World) (h : befV a b c d = z) :
    Calls Try.prog 22 #[PtV a b, PtV c d] w fun e w' => e = .returned (.bool z) ∧ Below w.heap.size w w' := by
  subst h; exact before_any a b c d w
theorem move_is (a b p q u v : Int) (r : Bool) (w : World) (h : movB a b p q = r ∧ movX a b p q = u ∧ movY a b p q = v) :
    Calls Try.prog 21 #[PtV a b, .int .i64 p, .int .i64 q] w fun e w' => e = .returned (.tuple #[PtV u v, .bool r]) ∧ Below w.heap.size w w' := by
  obtain ⟨rfl, rfl, rfl⟩ := h; exact movePoint_any a b p q w
theorem bel_next {w w1 w2 : World} (h : Below w.heap.size w w1) (hb : Below w1.heap.size w1 w2) : Below w.heap.size w w2 := h.trans (hb.mono h.size)

set_option maxRecDepth 100000 in
set_option maxHeartbeats 4000000 in
theorem law_points (A : Option Addr) (len cap : Nat) (w : World) (hc : Code w w.heap.size A len) :
    Calls Try.prog 3 #[.slice A len cap] w fun e w' => e = .returned (.bool true) ∧ Below w.heap.size w w' := by
  have hlen := hc.1
  by_cases hbig : 1048576 < len
  · go_enter Try.func3, Try.ntmps3
    go_wp2_with fail
    refine (big_yes A len cap _ hbig).mono ?_
    rintro e w0 ⟨rfl, rfl⟩
    go_wp2
    go_ret
    exact ⟨rfl, Below.refl _ _⟩
  · go_enter Try.func3, Try.ntmps3
    have HC := Lib.hid hc; clear hc
    go_wp2_with fail
    refine (big_no A len cap _ (by omega)).mono ?_
    rintro e w0 ⟨rfl, rfl⟩
    go_wp2_with fail
    refine (drawSideOf_any A len cap _ _ HC.out).mono ?_
    rintro e w1 ⟨⟨a, b, c, d, x, y, -, rfl⟩, hb1⟩
    have HB := Lib.hid (Boxes.of3 (a := a) (b := b) (c := c) (d := d) (x := x) (y := y) w1 25)
    have HW := Lib.hid hb1
    clear hb1
    obtain ⟨s, hs⟩ : ∃ s, sideV a b c d x y = s := ⟨_, rfl⟩
    obtain ⟨hs0, hs1⟩ := side_bd a b c d x y
    rw [hs] at hs0 hs1
    have H1 := Lib.hid hs
    have H2 : Hid (sideV c d a b x y = -s) := Lib.hid (by rw [side_swap, hs])
    have H3 : Hid (sideV c d x y a b = s) := Lib.hid (by rw [side_rot, hs])
    have H4 : Hid (sideV x y a b c d = s) := Lib.hid (by rw [side_rot, side_rot, hs])
    clear hs
    obtain ⟨k0, k1, k2, k3, k4, k5⟩ := HB.out.c3
    go_wp2_with fail
    refine (sideOf_is _ _ _ _ _ _ _ _ H1.out).mono ?_
    rintro e w2 ⟨rfl, hb2⟩
    have HB2 := Lib.hid (HB.out.next hb2)
    clear hb2 HB k0 k1 k2 k3 k4 k5
    obtain ⟨k0, k1, k2, k3, k4, k5⟩ := HB2.out.c3
    go_wp2_with fail
    refine (sideOf_is _ _ _ _ _ _ _ _ H2.out).mono ?_
    rintro e w3 ⟨rfl, hb3⟩
    have HB3 := Lib.hid (HB2.out.next hb3)
    clear hb3 HB2 k0 k1 k2 k3 k4 k5
    obtain ⟨k0, k1, k2, k3, k4, k5⟩ := HB3.out.c3
    go_wp2_with fail
    refine (sideOf_is _ _ _ _ _ _ _ _ H3.out).mono ?_
    rintro e w4 ⟨rfl, hb4⟩
    have HB4 := Lib.hid (HB3.out.next hb4)
    clear hb4 HB3 k0 k1 k2 k3 k4 k5
    obtain ⟨k0, k1, k2, k3, k4, k5⟩ := HB4.out.c3
    go_wp2_with fail
    refine (sideOf_is _ _ _ _ _ _ _ _ H4.out).mono ?_
    rintro e w5 ⟨rfl, hb5⟩
    have HW5 := Lib.hid (bel_next HW.out (HB4.out.next hb5).1)
    have HC5 := Lib.hid (code_below HC.out HW5.out)
    clear hb5 HB4 HW k0 k1 k2 k3 k4 k5 H1 H2 H3 H4
    go_wp2_with fail
    refine (drawFarSquared_any A len cap _ _ HC5.out).mono ?_
    rintro e w6 ⟨⟨a1, b1, c1, d1, -, rfl⟩, hb6⟩
    have HB6 := Lib.hid (Boxes.of2 (a := a1) (b := b1) (c := c1) (d := d1) w6 25)
    have HW6 := Lib.hid (bel_next HW5.out hb6)
    clear hb6 HW5 HC5
    obtain ⟨f, hf⟩ : ∃ f, farV a1 b1 c1 d1 = f := ⟨_, rfl⟩
    obtain ⟨n, hn⟩ : ∃ n, stepsV a1 b1 c1 d1 = n := ⟨_, rfl⟩
    have HF : Hid (FarOk f n) := Lib.hid (by rw [← hf, ← hn]; exact far_ok _ _ _ _)
    have F1 := Lib.hid hf
    have F2 : Hid (farV c1 d1 a1 b1 = f) := Lib.hid (by rw [far_comm, hf])
    have N1 := Lib.hid hn
    have N2 : Hid (stepsV c1 d1 a1 b1 = n) := Lib.hid (by rw [steps_comm, hn])
    clear hf hn
    obtain ⟨k0, k1, k2, k3⟩ := HB6.out.c2
    go_wp2_with fail
    refine (far_is _ _ _ _ _ _ F1.out).mono ?_
    rintro e w7 ⟨rfl, hb7⟩
    have HB7 := Lib.hid (HB6.out.next hb7)
    clear hb7 HB6 k0 k1 k2 k3
    obtain ⟨k0, k1, k2, k3⟩ := HB7.out.c2
    go_wp2_with fail
    refine (steps_is _ _ _ _ _ _ N1.out).mono ?_
    rintro e w8 ⟨rfl, hb8⟩
    have HB8 := Lib.hid (HB7.out.next hb8)
    clear hb8 HB7 k0 k1 k2 k3
    have HF' : Hid ((f = -1 ∧ n = -1) ∨ ((0 ≤ f ∧ f ≤ 80000 ∧ 0 ≤ n ∧ n ≤ 400 ∧ f ≤ n * n ∧ n * n ≤ 2 * f ∧ 0 ≤ n * n ∧ n * n ≤ 160000) ∧ (f == -1) = false ∧ (n == -1) = false)) := Lib.hid (by rcases HF.out with h | h; exact .inl h; exact .inr ⟨h, by simp; omega, by simp; omega⟩)
    rcases HF'.out with ⟨rfl, rfl⟩ | ⟨⟨g0, g1, g2, g3, g4, g5, g6, g7⟩, g8, g9⟩
    all_goals
      clear HF HF'
      obtain ⟨k0, k1, k2, k3⟩ := HB8.out.c2
      go_wp2_with fail
      refine (far_is _ _ _ _ _ _ F2.out).mono ?_
      rintro e w9 ⟨rfl, hb9⟩
      have HB9 := Lib.hid (HB8.out.next hb9)
      clear hb9 HB8 k0 k1 k2 k3
      obtain ⟨k0, k1, k2, k3⟩ := HB9.out.c2
      go_wp2_with fail
      refine (steps_is _ _ _ _ _ _ N2.out).mono ?_
      rintro e w10 ⟨rfl, hb10⟩
      have HB10 := Lib.hid (HB9.out.next hb10)
      have HW10 := Lib.hid (bel_next HW6.out (HB9.out.next hb10).1)
      have HC10 := Lib.hid (code_below HC.out HW10.out)
      clear hb10 HB9 HW6 k0 k1 k2 k3 F1 F2 N1 N2 HC
      go_wp2_with fail
      refine (drawMovePoint_any A len cap _ _ HC10.out).mono ?_
      rintro e w11 ⟨⟨a2, b2, p, q, ⟨-, -, ⟨hp0, hp1⟩, hq0, hq1⟩, rfl⟩, hb11⟩
      have HB11 := Lib.hid (HB10.out.next hb11)
      have HW11 := Lib.hid (bel_next HW10.out hb11)
      have HQ11 := Lib.hid (Boxes.of1 (a := a2) (b := b2) w11 25)
      clear hb11 HB10 HW10 HC10
      obtain ⟨k0, k1⟩ := HQ11.out.c1
      go_wp2_with fail
      cases hr : movB a2 b2 p q
      · have HM := Lib.hid (mov_no hr)
        clear hr
        refine (move_is _ _ _ _ _ _ _ _ HM.out).mono ?_
        rintro e w12 ⟨rfl, hb12⟩
        have HW12 := Lib.hid (bel_next HW11.out (HQ11.out.next hb12).1)
        have HB12 := Lib.hid (((HB11.out.al _).next hb12).al (.cells #[.int .i64 a2, .int .i64 b2] 25))
        have HX12 := Lib.hid (bel_al HW12.out (Nat.le_refl _) (.cells #[.int .i64 a2, .int .i64 b2] 25))
        clear hb12 HB11 HW11 HQ11 HW12 k0 k1 HM
        rcases bef_tri a1 b1 c1 d1 with ⟨t1, t2⟩ | ⟨t1, t2⟩ | ⟨t1, t2, rfl, rfl⟩
        all_goals
          have T1 := Lib.hid t1
          have T2 := Lib.hid t2
          have HB99 := HB12
          have HW99 := HX12
          clear t1 t2 HB12 HX12
          obtain ⟨k0, k1, k2, k3⟩ := HB99.out.c2
          go_wp2_with (go_at_call 22; refine (before_is _ _ _ _ _ _ (by first | exact T1.out | exact T2.out)).mono ?_; rintro e w99 ⟨rfl, hb99⟩; have HW99 := Lib.hid (bel_next HW99.out hb99); have HB99 := Lib.hid (HB99.out.next hb99); obtain ⟨k0, k1, k2, k3⟩ := HB99.out.c2)
          go_ret
          exact ⟨rfl, HW99.out⟩
      · have HM := Lib.hid (mov_yes hr)
        have HK := Lib.hid (mov_back hr)
        clear hr
        refine (move_is _ _ _ _ _ _ _ _ HM.out).mono ?_
        rintro e w12 ⟨rfl, hb12⟩
        have HW12 := Lib.hid (bel_al (bel_next HW11.out (HQ11.out.next hb12).1) (Nat.le_refl _) (.cells #[.int .i64 (a2 + p), .int .i64 (b2 + q)] 25))
        have HB12 := Lib.hid (((HB11.out.al _).next hb12).al (.cells #[.int .i64 (a2 + p), .int .i64 (b2 + q)] 25))
        have HQ12 := Lib.hid ((HQ11.out.next hb12).al (.cells #[.int .i64 (a2 + p), .int .i64 (b2 + q)] 25))
        have HR12 := Lib.hid (Boxes.of1 (a := a2 + p) (b := b2 + q) w12 25)
        clear hb12 HB11 HW11 HQ11 k0 k1 HM
        obtain ⟨k0, k1⟩ := HR12.out.c1
        go_wp2_with fail
        refine (move_is _ _ _ _ _ _ _ _ HK.out).mono ?_
        rintro e w13 ⟨rfl, hb13⟩
        have HW13 := Lib.hid (bel_al (bel_next HW12.out hb13) (Nat.le_refl _) (.cells #[.int .i64 a2, .int .i64 b2] 25))
        have HB13 := Lib.hid ((HB12.out.next hb13).al (.cells #[.int .i64 a2, .int .i64 b2] 25))
        have HQ13 := Lib.hid ((HQ12.out.next hb13).al (.cells #[.int .i64 a2, .int .i64 b2] 25))
        have HS13 := Lib.hid (Boxes.of1 (a := a2) (b := b2) w13 25)
        clear hb13 HB12 HW12 HQ12 HR12 k0 k1 HK
        obtain ⟨j0, j1⟩ := HS13.out.c1
        obtain ⟨j2, j3⟩ := HQ13.out.c1
        rcases bef_tri a1 b1 c1 d1 with ⟨t1, t2⟩ | ⟨t1, t2⟩ | ⟨t1, t2, rfl, rfl⟩
        all_goals
          have T1 := Lib.hid t1
          have T2 := Lib.hid t2
          have HB99 := HB13
          have HW99 := HW13
          clear t1 t2 HB13 HW13
          obtain ⟨k0, k1, k2, k3⟩ := HB99.out.c2
          go_wp2_with (go_at_call 22; refine (before_is _ _ _ _ _ _ (by first | exact T1.out | exact T2.out)).mono ?_; rintro e w99 ⟨rfl, hb99⟩; have HW99 := Lib.hid (bel_next HW99.out hb99); have HB99 := Lib.hid (HB99.out.next hb99); obtain ⟨k0, k1, k2, k3⟩ := HB99.out.c2)
          go_ret
          exact ⟨rfl, HW99.out⟩
theorem law_points_row (A : Option Addr) (len cap : Nat) (z : List Int) (w : World) (hrow : IsRow .u8 w A len cap z) :
    Calls Try.prog 3 #[.slice A len cap] w fun e w' => e = .returned (.bool true) ∧ Below w.heap.size w w' :=
  law_points A len cap w (code_of_row hrow)
end Go.Proofs.Ytbnjaaegbmhopaa
