/- Points: distances, the order, moves: package impl and the model. -/
import Derived.Test.YtbnjaaegbmhopaaPoint2
namespace Go.Proofs.Ytbnjaaegbmhopaa
open Go.ChangeShapes Go.WideShapes Go.ChangeAt Go.RowKit
set_option linter.unusedVariables false

theorem wrap_id {x : Int} (h : -1000000 ≤ x ∧ x ≤ 1000000) : IntKind.i64.wrap x = x := by rw [IntKind.wrap_i64]; omega
theorem smax_bel (a b : Int) (w : World) :
    Calls Try.prog 82 #[.int .i64 a, .int .i64 b] w fun e w' => e = .returned (.int .i64 (extV true a b)) ∧ Below w.heap.size w w' := bel_eq (smax_any a b w)
theorem smax_is (a b z : Int) (w : World) (hz : extV true a b = z) :
    Calls Try.prog 82 #[.int .i64 a, .int .i64 b] w fun e w' => e = .returned (.int .i64 z) ∧ Below w.heap.size w w' := by subst hz; exact smax_bel a b w
theorem stepsBetween_any (a b c d : Int) (w : World) :
    Calls Try.prog 19 #[PtV a b, PtV c d] w fun e w' => e = .returned (.int .i64 (stepsV a b c d)) ∧ Below w.heap.size w w' := by
  go_enter Try.func19, Try.ntmps19
  go_wp2_with fail
  refine (arePoints_any _ _ [(a, b), (c, d)] _ (seesP_new _ _ _ _ _ _ (by rfl) (by simp) (by simp)) (by simp)).mono ?_
  rintro e w1 ⟨rfl, hb1⟩
  have HB := Lib.hid (((Boxes.of2 w 25).al _).next hb1)
  clear hb1
  have he : allP [(a, b), (c, d)] = isP2 a b c d := by simp [allP, isP2]
  cases h : isP2 a b c d
  · have hx : allP [(a, b), (c, d)] = false := he.trans h
    have HS := Lib.hid (steps_no h)
    clear he h
    go_wp2
    go_ret
    exact ⟨ret_int HS.out.symm, HB.out.1⟩
  · have hx : allP [(a, b), (c, d)] = true := he.trans h
    obtain ⟨hA, hC⟩ := isP2_bd h
    obtain ⟨u, hu⟩ : ∃ u : Nat, u = (a - c).natAbs := ⟨_, rfl⟩
    obtain ⟨v, hv⟩ : ∃ v : Nat, v = (b - d).natAbs := ⟨_, rfl⟩
    have hu1 : u ≤ 200 := by omega
    have hv1 : v ≤ 200 := by omega
    have HU : Hid (extV true (a - c) (c - a) = u) := Lib.hid (by rw [ext_sub, hu])
    have HV : Hid (extV true (b - d) (d - b) = v) := Lib.hid (by rw [ext_sub, hv])
    have HQ : Hid (stepsV a b c d = (u : Int) + v) := Lib.hid (by rw [steps_yes h, HU.out, HV.out])
    obtain ⟨k0, k1, k2, k3⟩ := HB.out.c2
    clear he h hu hv
    go_wp2_with fail
    go_region_held3 (fun w' => w'.cell? ⟨w.heap.size, 0, none⟩ = some (.int .i64 a) ∧ w'.cell? ⟨w.heap.size, 1, none⟩ = some (.int .i64 b) ∧ w'.cell? ⟨w.heap.size + 1, 0, none⟩ = some (.int .i64 c) ∧ w'.cell? ⟨w.heap.size + 1, 1, none⟩ = some (.int .i64 d)) (first | exact ⟨k0, k1, k2, k3⟩ | exact HB9.out.c2) (first
      | (go_at_call 68; refine (distance_is _ _ _ _ (by omega) (by omega) (by first | exact HU.out | exact HV.out)).mono ?_; rintro e w9 ⟨rfl, hb9⟩; have HB9 := Lib.hid (Boxes.next (by first | exact HB9.out | exact HB9.out.drew | exact HB.out | exact HB.out.drew) hb9)) | fail)
    all_goals
      go_wp2
      go_ret
      exact ⟨ret_int ((wrap_id (by omega)).trans HQ.out.symm), HB9.out.1⟩
/-- The order of points: by rows. -/
def befV (a b c d : Int) : Bool := decide (b < d ∨ b = d ∧ a < c)
theorem bef_1 {a b c d : Int} (h : b < d) : befV a b c d = true := by unfold befV; exact decide_eq_true (by omega)
theorem bef_2 {a b c d : Int} (h : ¬ b < d) (h' : ¬ b = d) : befV a b c d = false := by unfold befV; exact decide_eq_false (by omega)
theorem bef_3 {a b c d : Int} (h' : b = d) : befV a b c d = decide (a < c) := by unfold befV; exact decide_eq_decide.2 (by omega)
theorem pack_any (x y : Int) (w : World) (h : 0 ≤ x ∧ x ≤ 200 ∧ 0 ≤ y ∧ y ≤ 200) :
    Calls Try.prog 72 #[PtV x y] w fun e w' => e = .returned (.int .i64 (y * 201 + x)) ∧ Below w.heap.size w w' := by
  go_enter Try.func72, Try.ntmps72
  go_wp2
  go_ret
  exact ⟨rfl, (Boxes.of1 w 25).1⟩
theorem before_any (a b c d : Int) (w : World) :
    Calls Try.prog 22 #[PtV a b, PtV c d] w fun e w' => e = .returned (.bool (befV a b c d)) ∧ Below w.heap.size w w' := by
  go_enter Try.func22, Try.ntmps22
  go_wp2_with fail
  refine (arePoints_any _ _ [(a, b), (c, d)] _ (seesP_new _ _ _ _ _ _ (by rfl) (by simp) (by simp)) (by simp)).mono ?_
  rintro e w1 ⟨rfl, hb1⟩
  have HB := Lib.hid (((Boxes.of2 w 25).al _).next hb1)
  clear hb1
  obtain ⟨k0, k1, k2, k3⟩ := HB.out.c2
  have he : allP [(a, b), (c, d)] = isP2 a b c d := by simp [allP, isP2]
  cases h : isP2 a b c d
  · have hx : allP [(a, b), (c, d)] = false := he.trans h
    clear he h
    by_cases h1 : b < d
    · have HE := Lib.hid (bef_1 (a := a) (c := c) h1)
      go_wp2
      go_ret
      exact ⟨ret_eq HE.out.symm, HB.out.1⟩
    · by_cases h2 : b = d
      · subst h2
        have HE := Lib.hid (bef_3 (a := a) (b := b) (c := c) rfl)
        go_wp2
        go_ret
        exact ⟨ret_eq HE.out.symm, HB.out.1⟩
      · have HE := Lib.hid ((bef_2 (a := a) (c := c) h1 h2).trans (decide_eq_false h1).symm)
        go_wp2
        go_ret
        exact ⟨ret_eq HE.out.symm, HB.out.1⟩
  · have hx : allP [(a, b), (c, d)] = true := he.trans h
    obtain ⟨hA, hC⟩ := isP2_bd h
    have HE : Hid (befV a b c d = decide (b * 201 + a < d * 201 + c)) := Lib.hid (by unfold befV; exact decide_eq_decide.2 (by omega))
    clear he h
    go_wp2_with fail
    go_region_held3 (fun w' => w'.cell? ⟨w.heap.size, 0, none⟩ = some (.int .i64 a) ∧ w'.cell? ⟨w.heap.size, 1, none⟩ = some (.int .i64 b) ∧ w'.cell? ⟨w.heap.size + 1, 0, none⟩ = some (.int .i64 c) ∧ w'.cell? ⟨w.heap.size + 1, 1, none⟩ = some (.int .i64 d)) (first | exact ⟨k0, k1, k2, k3⟩ | exact HB9.out.c2) (first
      | (go_at_call 72; refine (pack_any _ _ _ (by first | exact hA | exact hC)).mono ?_; rintro e w9 ⟨rfl, hb9⟩; have HB9 := Lib.hid (Boxes.next (by first | exact HB9.out | exact HB9.out.drew | exact HB.out | exact HB.out.drew) hb9)) | fail)
    all_goals
      go_wp2
      go_ret
      exact ⟨ret_eq HE.out.symm, HB9.out.1⟩
end Go.Proofs.Ytbnjaaegbmhopaa
