/- Points: distances, the order, moves: package impl and the model. -/
import Derived.Test.YtkjmhgnefelchaaPoint2
namespace Go.Proofs.Ytkjmhgnefelchaa
open Go.ChangeShapes Go.WideShapes Go.ChangeAt Go.RowKit
set_option linter.unusedVariables false

theorem wrap_id {x : Int} (h : -1000000 ≤ x ∧ x ≤ 1000000) : IntKind.i64.wrap x = x := by rw [IntKind.wrap_i64]; omega
theorem sFarSquared_any (a b c d : Int) (w : World) :
    Calls Try.prog 23 #[PtV a b, PtV c d] w fun e w' => e = .returned (.int .i64 (farV a b c d)) ∧ Below w.heap.size w w' := by
  go_enter Try.func23, Try.ntmps23
  go_wp2_with fail
  cases h1 : isP a b
  · have hs : farV a b c d = -1 := far_no (by simp [isP2, h1])
    refine (sIsPoint_is a b _ _ h1).mono ?_
    rintro e w1 ⟨rfl, hb1⟩
    go_wp2
    go_ret
    exact ⟨ret_int hs.symm, ((Boxes.of2 w 25).next hb1).1⟩
  · refine (sIsPoint_is a b _ _ h1).mono ?_
    rintro e w1 ⟨rfl, hb1⟩
    have HB := Lib.hid ((Boxes.of2 w 25).next hb1)
    obtain ⟨k0, k1, k2, k3⟩ := HB.out.c2
    clear hb1
    go_wp2_with fail
    cases h2 : isP c d
    · have hs : farV a b c d = -1 := far_no (by simp [isP2, h2])
      refine (sIsPoint_is c d _ _ h2).mono ?_
      rintro e w2 ⟨rfl, hb2⟩
      go_wp2
      go_ret
      exact ⟨ret_int hs.symm, (HB.out.next hb2).1⟩
    · refine (sIsPoint_is c d _ _ h2).mono ?_
      rintro e w2 ⟨rfl, hb2⟩
      have HB2 := Lib.hid (HB.out.next hb2)
      clear hb2 HB k0 k1 k2 k3
      obtain ⟨k0, k1, k2, k3⟩ := HB2.out.c2
      have h : isP2 a b c d = true := by simp [isP2, h1, h2]
      have HS := Lib.hid (far_yes h)
      obtain ⟨hA, hC⟩ := isP2_bd h
      clear h h1 h2
      have m1 := mul_bd (u := a - c) (v := a - c) (by omega) (by omega) (by omega) (by omega)
      have m2 := mul_bd (u := b - d) (v := b - d) (by omega) (by omega) (by omega) (by omega)
      go_wp2
      go_ret
      exact ⟨ret_int HS.out.symm, HB2.out.1⟩
theorem smax_bel (a b : Int) (w : World) :
    Calls Try.prog 39 #[.int .i64 a, .int .i64 b] w fun e w' => e = .returned (.int .i64 (extV true a b)) ∧ Below w.heap.size w w' := bel_eq (smax_any a b w)
theorem smax_is (a b z : Int) (w : World) (hz : extV true a b = z) :
    Calls Try.prog 39 #[.int .i64 a, .int .i64 b] w fun e w' => e = .returned (.int .i64 z) ∧ Below w.heap.size w w' := by subst hz; exact smax_bel a b w
theorem sStepsBetween_any (a b c d : Int) (w : World) :
    Calls Try.prog 24 #[PtV a b, PtV c d] w fun e w' => e = .returned (.int .i64 (stepsV a b c d)) ∧ Below w.heap.size w w' := by
  go_enter Try.func24, Try.ntmps24
  go_wp2_with fail
  cases h1 : isP a b
  · have hs : stepsV a b c d = -1 := steps_no (by simp [isP2, h1])
    refine (sIsPoint_is a b _ _ h1).mono ?_
    rintro e w1 ⟨rfl, hb1⟩
    go_wp2
    go_ret
    exact ⟨ret_int hs.symm, ((Boxes.of2 w 25).next hb1).1⟩
  · refine (sIsPoint_is a b _ _ h1).mono ?_
    rintro e w1 ⟨rfl, hb1⟩
    have HB := Lib.hid ((Boxes.of2 w 25).next hb1)
    obtain ⟨k0, k1, k2, k3⟩ := HB.out.c2
    clear hb1
    go_wp2_with fail
    cases h2 : isP c d
    · have hs : stepsV a b c d = -1 := steps_no (by simp [isP2, h2])
      refine (sIsPoint_is c d _ _ h2).mono ?_
      rintro e w2 ⟨rfl, hb2⟩
      go_wp2
      go_ret
      exact ⟨ret_int hs.symm, (HB.out.next hb2).1⟩
    · refine (sIsPoint_is c d _ _ h2).mono ?_
      rintro e w2 ⟨rfl, hb2⟩
      have HB2 := Lib.hid (HB.out.next hb2)
      clear hb2 HB k0 k1 k2 k3
      obtain ⟨k0, k1, k2, k3⟩ := HB2.out.c2
      have h : isP2 a b c d = true := by simp [isP2, h1, h2]
      obtain ⟨hA, hC⟩ := isP2_bd h
      obtain ⟨u, hu⟩ : ∃ u : Nat, u = (a - c).natAbs := ⟨_, rfl⟩
      obtain ⟨v, hv⟩ : ∃ v : Nat, v = (b - d).natAbs := ⟨_, rfl⟩
      have hu1 : u ≤ 200 := by omega
      have hv1 : v ≤ 200 := by omega
      have HU : Hid (extV true (a - c) (c - a) = u) := Lib.hid (by rw [ext_sub, hu])
      have HV : Hid (extV true (b - d) (d - b) = v) := Lib.hid (by rw [ext_sub, hv])
      have HQ : Hid (stepsV a b c d = (u : Int) + v) := Lib.hid (by rw [steps_yes h, HU.out, HV.out])
      have HU' : Hid (extV true (IntKind.i64.wrap (a - c)) (IntKind.i64.wrap (c - a)) = u) := Lib.hid (by rw [wrap_id (by omega), wrap_id (by omega), HU.out])
      have HV' : Hid (extV true (IntKind.i64.wrap (b - d)) (IntKind.i64.wrap (d - b)) = v) := Lib.hid (by rw [wrap_id (by omega), wrap_id (by omega), HV.out])
      clear h h1 h2 hu hv
      go_wp2_with fail
      go_region_held3 (fun w' => w'.cell? ⟨w.heap.size, 0, none⟩ = some (.int .i64 a) ∧ w'.cell? ⟨w.heap.size, 1, none⟩ = some (.int .i64 b) ∧ w'.cell? ⟨w.heap.size + 1, 0, none⟩ = some (.int .i64 c) ∧ w'.cell? ⟨w.heap.size + 1, 1, none⟩ = some (.int .i64 d)) (first | exact ⟨k0, k1, k2, k3⟩ | exact HB9.out.c2) (first
        | (go_at_call 39; refine (smax_is _ _ _ _ (by first | exact HU'.out | exact HV'.out)).mono ?_; rintro e w9 ⟨rfl, hb9⟩; have HB9 := Lib.hid (Boxes.next (by first | exact HB9.out | exact HB9.out.drew | exact HB2.out | exact HB2.out.drew) hb9)) | fail)
      all_goals
        go_wp2
        go_ret
        exact ⟨ret_int ((wrap_id (by omega)).trans HQ.out.symm), HB9.out.1⟩
theorem stepsBetween_any (a b c d : Int) (w : World) :
    Calls Try.prog 15 #[PtV a b, PtV c d] w fun e w' => e = .returned (.int .i64 (stepsV a b c d)) ∧ Below w.heap.size w w' := by
  go_enter Try.func15, Try.ntmps15
  go_wp2_with fail
  refine (arePoints_any _ _ [(a, b), (c, d)] _ (seesP_new _ _ _ _ _ _ (by rfl) (by simp) (by simp)) (by simp)).mono ?_
  rintro e w1 ⟨rfl, hb1⟩
  have HB := Lib.hid (((Boxes.of2 w 25).al _).next hb1)
  clear hb1
  have he : allP [(a, b), (c, d)] = isP2 a b c d := by simp [allP, isP2]
  cases h : isP2 a b c d
  · have hx : allP [(a, b), (c, d)] = false := he.trans h
    have HS := Lib.hid (steps_no h)
    clear he h
    go_wp2
    go_ret
    exact ⟨ret_int HS.out.symm, HB.out.1⟩
  · have hx : allP [(a, b), (c, d)] = true := he.trans h
    obtain ⟨hA, hC⟩ := isP2_bd h
    obtain ⟨u, hu⟩ : ∃ u : Nat, u = (a - c).natAbs := ⟨_, rfl⟩
    obtain ⟨v, hv⟩ : ∃ v : Nat, v = (b - d).natAbs := ⟨_, rfl⟩
    have hu1 : u ≤ 200 := by omega
    have hv1 : v ≤ 200 := by omega
    have HU : Hid (extV true (a - c) (c - a) = u) := Lib.hid (by rw [ext_sub, hu])
    have HV : Hid (extV true (b - d) (d - b) = v) := Lib.hid (by rw [ext_sub, hv])
    have HQ : Hid (stepsV a b c d = (u : Int) + v) := Lib.hid (by rw [steps_yes h, HU.out, HV.out])
    obtain ⟨k0, k1, k2, k3⟩ := HB.out.c2
    clear he h hu hv
    go_wp2_with fail
    go_region_held3 (fun w' => w'.cell? ⟨w.heap.size, 0, none⟩ = some (.int .i64 a) ∧ w'.cell? ⟨w.heap.size, 1, none⟩ = some (.int .i64 b) ∧ w'.cell? ⟨w.heap.size + 1, 0, none⟩ = some (.int .i64 c) ∧ w'.cell? ⟨w.heap.size + 1, 1, none⟩ = some (.int .i64 d)) (first | exact ⟨k0, k1, k2, k3⟩ | exact HB9.out.c2) (first
      | (go_at_call 33; refine (distance_is _ _ _ _ (by omega) (by omega) (by first | exact HU.out | exact HV.out)).mono ?_; rintro e w9 ⟨rfl, hb9⟩; have HB9 := Lib.hid (Boxes.next (by first | exact HB9.out | exact HB9.out.drew | exact HB.out | exact HB.out.drew) hb9)) | fail)
    all_goals
      go_wp2
      go_ret
      exact ⟨ret_int ((wrap_id (by omega)).trans HQ.out.symm), HB9.out.1⟩
/-- The order of points: by rows. -/
def befV (a b c d : Int) : Bool := decide (b < d ∨ b = d ∧ a < c)
theorem bef_1 {a b c d : Int} (h : b < d) : befV a b c d = true := by unfold befV; exact decide_eq_true (by omega)
theorem bef_2 {a b c d : Int} (h : ¬ b < d) (h' : ¬ b = d) : befV a b c d = false := by unfold befV; exact decide_eq_false (by omega)
theorem bef_3 {a b c d : Int} (h' : b = d) : befV a b c d = decide (a < c) := by unfold befV; exact decide_eq_decide.2 (by omega)
theorem pack_any (x y : Int) (w : World) (h : 0 ≤ x ∧ x ≤ 200 ∧ 0 ≤ y ∧ y ≤ 200) :
    Calls Try.prog 36 #[PtV x y] w fun e w' => e = .returned (.int .i64 (y * 201 + x)) ∧ Below w.heap.size w w' := by
  go_enter Try.func36, Try.ntmps36
  go_wp2
  go_ret
  exact ⟨rfl, (Boxes.of1 w 25).1⟩
theorem sBefore_any (a b c d : Int) (w : World) :
    Calls Try.prog 25 #[PtV a b, PtV c d] w fun e w' => e = .returned (.bool (befV a b c d)) ∧ Below w.heap.size w w' := by
  by_cases h1 : b < d
  · have HE := Lib.hid (bef_1 (a := a) (c := c) h1)
    go_enter Try.func25, Try.ntmps25
    go_wp2
    go_ret
    exact ⟨ret_eq HE.out.symm, (Boxes.of2 w 25).1⟩
  · by_cases h2 : b = d
    · subst h2
      have HE := Lib.hid (bef_3 (a := a) (b := b) (c := c) rfl)
      go_enter Try.func25, Try.ntmps25
      go_wp2
      go_ret
      exact ⟨ret_eq HE.out.symm, (Boxes.of2 w 25).1⟩
    · have HE := Lib.hid (bef_2 (a := a) (c := c) h1 h2)
      go_enter Try.func25, Try.ntmps25
      go_wp2
      go_ret
      exact ⟨ret_eq HE.out.symm, (Boxes.of2 w 25).1⟩
theorem before_any (a b c d : Int) (w : World) :
    Calls Try.prog 18 #[PtV a b, PtV c d] w fun e w' => e = .returned (.bool (befV a b c d)) ∧ Below w.heap.size w w' := by
  go_enter Try.func18, Try.ntmps18
  go_wp2_with fail
  refine (arePoints_any _ _ [(a, b), (c, d)] _ (seesP_new _ _ _ _ _ _ (by rfl) (by simp) (by simp)) (by simp)).mono ?_
  rintro e w1 ⟨rfl, hb1⟩
  have HB := Lib.hid (((Boxes.of2 w 25).al _).next hb1)
  clear hb1
  obtain ⟨k0, k1, k2, k3⟩ := HB.out.c2
  have he : allP [(a, b), (c, d)] = isP2 a b c d := by simp [allP, isP2]
  cases h : isP2 a b c d
  · have hx : allP [(a, b), (c, d)] = false := he.trans h
    clear he h
    by_cases h1 : b < d
    · have HE := Lib.hid (bef_1 (a := a) (c := c) h1)
      go_wp2
      go_ret
      exact ⟨ret_eq HE.out.symm, HB.out.1⟩
    · by_cases h2 : b = d
      · subst h2
        have HE := Lib.hid (bef_3 (a := a) (b := b) (c := c) rfl)
        go_wp2
        go_ret
        exact ⟨ret_eq HE.out.symm, HB.out.1⟩
      · have HE := Lib.hid ((bef_2 (a := a) (c := c) h1 h2).trans (decide_eq_false h1).symm)
        go_wp2
        go_ret
        exact ⟨ret_eq HE.out.symm, HB.out.1⟩
  · have hx : allP [(a, b), (c, d)] = true := he.trans h
    obtain ⟨hA, hC⟩ := isP2_bd h
    have HE : Hid (befV a b c d = decide (b * 201 + a < d * 201 + c)) := Lib.hid (by unfold befV; exact decide_eq_decide.2 (by omega))
    clear he h
    go_wp2_with fail
    go_region_held3 (fun w' => w'.cell? ⟨w.heap.size, 0, none⟩ = some (.int .i64 a) ∧ w'.cell? ⟨w.heap.size, 1, none⟩ = some (.int .i64 b) ∧ w'.cell? ⟨w.heap.size + 1, 0, none⟩ = some (.int .i64 c) ∧ w'.cell? ⟨w.heap.size + 1, 1, none⟩ = some (.int .i64 d)) (first | exact ⟨k0, k1, k2, k3⟩ | exact HB9.out.c2) (first
      | (go_at_call 36; refine (pack_any _ _ _ (by first | exact hA | exact hC)).mono ?_; rintro e w9 ⟨rfl, hb9⟩; have HB9 := Lib.hid (Boxes.next (by first | exact HB9.out | exact HB9.out.drew | exact HB.out | exact HB.out.drew) hb9)) | fail)
    all_goals
      go_wp2
      go_ret
      exact ⟨ret_eq HE.out.symm, HB9.out.1⟩
end Go.Proofs.Ytkjmhgnefelchaa
