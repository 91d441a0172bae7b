/- Boxes: JoinBoxes of the model; what the law says, by values. -/
import Derived.Test.YtjnbdbgkecfkcabBox2
import Derived.Test.YtjnbdbgkecfkcabBoxW
namespace Go.Proofs.Ytjnbdbgkecfkcab
open Go.ChangeShapes Go.WideShapes Go.ChangeAt Go.RowKit
set_option linter.unusedVariables false

set_option maxRecDepth 100000 in
set_option maxHeartbeats 2000000 in
theorem sJoinBoxes_is (a b c d p q r s : Int) (z : BxR) (w : World) (hz : joinV a b c d p q r s = z) :
    Calls Try.prog 16 #[SegV a b c d, SegV p q r s] w fun e w' => e = .returned (bxV z) ∧ Below w.heap.size w w' := by
  have HB := Lib.hid (Vars.of3 w (SegC a b c d) (SegC p q r s) (SegC 0 0 0 0) 29 29 29)
  have HZ := Lib.hid hz
  clear hz
  go_enter Try.func16, Try.ntmps16
  obtain ⟨k0, k1, k2, k3, k4, k5, k6, k7⟩ := HB.out.c44
  cases hu : isBx a b c d
  · go_wp2_with fail
    refine (sIsBox_is a b c d false _ hu).mono ?_
    rintro e w1 ⟨rfl, hb1⟩
    have HB1 := Lib.hid (HB.out.next hb1)
    clear hb1 k0 k1 k2 k3 k4 k5 k6 k7
    obtain ⟨k0, k1, k2, k3⟩ := HB1.out.c42
    obtain ⟨f0, f1, f2, f3⟩ := HB1.out.fr42
    go_wp2
    refine bodyPost_ret (v := bxV ((0, 0, 0, 0), false)) (by simp [results, Try.results16, go_sem, k0, k1, k2, k3]) rfl ?_
    exact ⟨ret_bx ((join_1 hu).symm.trans HZ.out), HB1.out.set40 (by omega) _ _ _ _⟩
  · go_wp2_with fail
    refine (sIsBox_is a b c d true _ hu).mono ?_
    rintro e w1 ⟨rfl, hb1⟩
    have HB1 := Lib.hid (HB.out.next hb1)
    clear hb1 k0 k1 k2 k3 k4 k5 k6 k7
    obtain ⟨k0, k1, k2, k3, k4, k5, k6, k7⟩ := HB1.out.c44
    cases hv : isBx p q r s
    · go_wp2_with fail
      refine (sIsBox_is p q r s false _ hv).mono ?_
      rintro e w2 ⟨rfl, hb2⟩
      have HB2 := Lib.hid (HB1.out.next hb2)
      clear hb2 k0 k1 k2 k3 k4 k5 k6 k7
      obtain ⟨k0, k1, k2, k3⟩ := HB2.out.c42
      obtain ⟨f0, f1, f2, f3⟩ := HB2.out.fr42
      go_wp2
      refine bodyPost_ret (v := bxV ((0, 0, 0, 0), false)) (by simp [results, Try.results16, go_sem, k0, k1, k2, k3]) rfl ?_
      exact ⟨ret_bx ((join_2 hv).symm.trans HZ.out), HB2.out.set40 (by omega) _ _ _ _⟩
    · go_wp2_with fail
      refine (sIsBox_is p q r s true _ hv).mono ?_
      rintro e w2 ⟨rfl, hb2⟩
      have HB2 := Lib.hid (HB1.out.next hb2)
      clear hb2 k0 k1 k2 k3 k4 k5 k6 k7
      obtain ⟨k0, k1, k2, k3, k4, k5, k6, k7⟩ := HB2.out.c44
      have HS : Hid (SeesE 2 encPoint (w2.alloc (.cells #[.int .i64 a, .int .i64 b, .int .i64 c, .int .i64 d, .int .i64 p, .int .i64 q, .int .i64 r, .int .i64 s] 27)) (w2.alloc (.cells #[.int .i64 a, .int .i64 b, .int .i64 c, .int .i64 d, .int .i64 p, .int .i64 q, .int .i64 r, .int .i64 s] 27)).heap.size (some ⟨w2.heap.size, 0, none⟩) [(a, b), (c, d), (p, q), (r, s)]) := Lib.hid (OwnE.sees elPoint (B := w2.heap.size) (m := 4) (c := 4) (World.ownsRow_lit (base := w2.heap.size) (e := 27) (size := 2) w2 #[.int .i64 a, .int .i64 b, .int .i64 c, .int .i64 d, .int .i64 p, .int .i64 q, .int .i64 r, .int .i64 s] 4 (Nat.le_refl _) (by decide) rfl))
      have HZ3 := Lib.hid ((join_3 hu hv).symm.trans HZ.out)
      go_wp2_with fail
      refine (sBoxOf_is (some ⟨w2.heap.size, 0, none⟩) 4 [(a, b), (c, d), (p, q), (r, s)] z _ HS.out (by simp) HZ3.out).mono ?_
      rintro e w3 ⟨rfl, hb3⟩
      have HB3 := Lib.hid ((HB2.out.al _).next hb3)
      clear hb3 k0 k1 k2 k3 k4 k5 k6 k7
      obtain ⟨k0, k1, k2, k3⟩ := HB3.out.c42
      obtain ⟨f0, f1, f2, f3⟩ := HB3.out.fr42
      obtain ⟨⟨z0, z1, z2, z3⟩, zb⟩ := z
      go_wp2
      refine bodyPost_ret (v := bxV ((z0, z1, z2, z3), zb)) (by simp [results, Try.results16, go_sem, k0, k1, k2, k3]) rfl ?_
      exact ⟨rfl, HB3.out.set40 (by omega) _ _ _ _⟩
/-! ### What the law says -/
theorem mt_comm (a b c d p q r s : Int) : mtB p q r s a b c d = mtB a b c d p q r s := by
  rw [Bool.eq_iff_iff]; simp only [mtB, Bool.and_eq_true, decide_eq_true_eq]; constructor <;> (rintro ⟨h1, h2, h3, h4, h5, h6⟩; exact ⟨h2, h1, h4, h3, h6, h5⟩)
theorem ov_comm (a b c d p q r s : Int) : ovB p q r s a b c d = ovB a b c d p q r s := by
  rw [Bool.eq_iff_iff]; simp only [ovB, Bool.and_eq_true, decide_eq_true_eq]; constructor <;> (rintro ⟨h1, h2, h3, h4⟩; exact ⟨h2, h1, by omega, by omega⟩)
theorem ov_mt {a b c d p q r s : Int} (h : ovB a b c d p q r s = true) : mtB a b c d p q r s = true := by
  simp only [ovB, mtB, Bool.and_eq_true, decide_eq_true_eq] at h ⊢
  obtain ⟨h1, h2, h3, h4⟩ := h
  exact ⟨h1, h2, by omega, by omega, by omega, by omega⟩
theorem bxF_low (l : List (Int × Int)) : ∀ r : Int × Int × Int × Int, ((l.foldl bxF r).1 ≤ r.1 ∧ (l.foldl bxF r).2.1 ≤ r.2.1 ∧ r.2.2.1 ≤ (l.foldl bxF r).2.2.1 ∧ r.2.2.2 ≤ (l.foldl bxF r).2.2.2) ∧ ∀ p ∈ l, ((l.foldl bxF r).1 ≤ p.1 ∧ (l.foldl bxF r).2.1 ≤ p.2 ∧ p.1 ≤ (l.foldl bxF r).2.2.1 ∧ p.2 ≤ (l.foldl bxF r).2.2.2) := by
  induction l with
  | nil => intro r; exact ⟨⟨Int.le_refl _, Int.le_refl _, Int.le_refl _, Int.le_refl _⟩, fun p hp => by cases hp⟩
  | cons q t ih =>
    intro r
    obtain ⟨⟨h1, h2, h3, h4⟩, h5⟩ := ih (bxF r q)
    have e : (q :: t).foldl bxF r = t.foldl bxF (bxF r q) := rfl
    rw [e]
    simp only [bxF] at h1 h2 h3 h4
    refine ⟨⟨by simp only [bxF] at *; omega, by simp only [bxF] at *; omega, by simp only [bxF] at *; omega, by simp only [bxF] at *; omega⟩, fun p hp => ?_⟩
    rcases List.mem_cons.1 hp with rfl | hp
    · exact ⟨by simp only [bxF] at *; omega, by simp only [bxF] at *; omega, by simp only [bxF] at *; omega, by simp only [bxF] at *; omega⟩
    · exact h5 p hp
theorem bxF_rng (l : List (Int × Int)) (hl : ∀ p ∈ l, isP p.1 p.2 = true) : ∀ r : Int × Int × Int × Int, (0 ≤ r.1 ∧ 0 ≤ r.2.1 ∧ r.2.2.1 ≤ 200 ∧ r.2.2.2 ≤ 200) → (0 ≤ (l.foldl bxF r).1 ∧ 0 ≤ (l.foldl bxF r).2.1 ∧ (l.foldl bxF r).2.2.1 ≤ 200 ∧ (l.foldl bxF r).2.2.2 ≤ 200) := by
  induction l with
  | nil => exact fun r h => h
  | cons q t ih =>
    intro r h
    have hq := isP_bd (hl q List.mem_cons_self)
    exact ih (fun p hp => hl p (List.mem_cons_of_mem _ hp)) (bxF r q) (by simp only [bxF]; omega)
/-- Every point of the list is in its box. -/
theorem boxOf_in {l : List (Int × Int)} {r : Int × Int × Int × Int} (h : boxOfV l = (r, true)) : ∀ p ∈ l, inBx r.1 r.2.1 r.2.2.1 r.2.2.2 p.1 p.2 = true := by
  cases l with
  | nil => simp [boxOfV] at h
  | cons q t =>
    replace h : (if ((q :: t).all fun q => isP q.1 q.2) = true then ((q :: t).foldl bxF (q.1, q.2, q.1, q.2), true) else ((0, 0, 0, 0), false)) = (r, true) := h
    by_cases hall : ((q :: t).all fun q => isP q.1 q.2) = true
    · rw [if_pos hall] at h
      have hall' : ∀ p ∈ q :: t, isP p.1 p.2 = true := fun p hp => List.all_eq_true.1 hall p hp
      obtain rfl : (q :: t).foldl bxF (q.1, q.2, q.1, q.2) = r := (Prod.mk.injEq _ _ _ _ ▸ h).1
      have hq := isP_bd (hall' q List.mem_cons_self)
      obtain ⟨⟨h1, h2, h3, h4⟩, h5⟩ := bxF_low (q :: t) (q.1, q.2, q.1, q.2)
      obtain ⟨g1, g2, g3, g4⟩ := bxF_rng (q :: t) hall' (q.1, q.2, q.1, q.2) ⟨hq.1, hq.2.2.1, hq.2.1, hq.2.2.2⟩
      intro p hp
      obtain ⟨i1, i2, i3, i4⟩ := h5 p hp
      generalize (q :: t).foldl bxF (q.1, q.2, q.1, q.2) = z at *
      obtain ⟨z0, z1, z2, z3⟩ := z
      dsimp only at *
      unfold inBx
      rw [isBx_yes (isP_of g1 (by omega) g2 (by omega)) (isP_of (by omega) g3 (by omega) g4) (by omega) (by omega), inB_yes i1 i3, inB_yes i2 i4]
      rfl
    · rw [if_neg hall] at h; cases h
theorem join_in {a b c d p q r s : Int} {z : Int × Int × Int × Int} (h : joinV a b c d p q r s = (z, true)) : ∀ t ∈ [(a, b), (c, d), (p, q), (r, s)], inBx z.1 z.2.1 z.2.2.1 z.2.2.2 t.1 t.2 = true := by
  unfold joinV at h
  split at h
  · exact boxOf_in h
  · cases h
theorem grow_in {a b c d n : Int} {z : Int × Int × Int × Int} (h : growV a b c d n = (z, true)) : isBx z.1 z.2.1 z.2.2.1 z.2.2.2 = true ∧ inBx z.1 z.2.1 z.2.2.1 z.2.2.2 a b = true ∧ inBx z.1 z.2.1 z.2.2.1 z.2.2.2 c d = true := by
  unfold growV at h
  split at h
  · next hh =>
    rw [Bool.and_eq_true] at hh
    have h1 := isBx_at hh.1
    have h2 : 0 ≤ n ∧ n ≤ 200 := by simpa [inB] using hh.2
    obtain rfl := (Prod.mk.injEq _ _ _ _ ▸ h).1
    dsimp only
    have hb : isBx (max 0 (a - n)) (max 0 (b - n)) (min 200 (c + n)) (min 200 (d + n)) = true := isBx_yes (isP_of (by omega) (by omega) (by omega) (by omega)) (isP_of (by omega) (by omega) (by omega) (by omega)) (by omega) (by omega)
    refine ⟨hb, ?_, ?_⟩
    · unfold inBx; rw [hb, inB_yes (by omega) (by omega), inB_yes (by omega) (by omega)]; rfl
    · unfold inBx; rw [hb, inB_yes (by omega) (by omega), inB_yes (by omega) (by omega)]; rfl
  · cases h
end Go.Proofs.Ytjnbdbgkecfkcab
