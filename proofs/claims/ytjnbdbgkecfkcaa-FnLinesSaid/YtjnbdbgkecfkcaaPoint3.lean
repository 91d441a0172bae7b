/- Points: distances, the order, moves: package impl and the model. -/
import Derived.Test.YtjnbdbgkecfkcaaPoint2
namespace Go.Proofs.Ytjnbdbgkecfkcaa
open Go.ChangeShapes Go.WideShapes Go.ChangeAt Go.RowKit
set_option linter.unusedVariables false

theorem wrap_id {x : Int} (h : -1000000 ≤ x ∧ x ≤ 1000000) : IntKind.i64.wrap x = x := by rw [IntKind.wrap_i64]; omega
theorem smax_bel (a b : Int) (w : World) :
    Calls Try.prog 77 #[.int .i64 a, .int .i64 b] w fun e w' => e = .returned (.int .i64 (extV true a b)) ∧ Below w.heap.size w w' := bel_eq (smax_any a b w)
theorem smax_is (a b z : Int) (w : World) (hz : extV true a b = z) :
    Calls Try.prog 77 #[.int .i64 a, .int .i64 b] w fun e w' => e = .returned (.int .i64 z) ∧ Below w.heap.size w w' := by subst hz; exact smax_bel a b w
theorem sStepsBetween_any (a b c d : Int) (w : World) :
    Calls Try.prog 103 #[PtV a b, PtV c d] w fun e w' => e = .returned (.int .i64 (stepsV a b c d)) ∧ Below w.heap.size w w' := by
  go_enter Try.func103, Try.ntmps103
  go_wp2_with fail
  cases h1 : isP a b
  · have hs : stepsV a b c d = -1 := steps_no (by simp [isP2, h1])
    refine (sIsPoint_is a b _ _ h1).mono ?_
    rintro e w1 ⟨rfl, hb1⟩
    go_wp2
    go_ret
    exact ⟨ret_int hs.symm, ((Boxes.of2 w 25).next hb1).1⟩
  · refine (sIsPoint_is a b _ _ h1).mono ?_
    rintro e w1 ⟨rfl, hb1⟩
    have HB := Lib.hid ((Boxes.of2 w 25).next hb1)
    obtain ⟨k0, k1, k2, k3⟩ := HB.out.c2
    clear hb1
    go_wp2_with fail
    cases h2 : isP c d
    · have hs : stepsV a b c d = -1 := steps_no (by simp [isP2, h2])
      refine (sIsPoint_is c d _ _ h2).mono ?_
      rintro e w2 ⟨rfl, hb2⟩
      go_wp2
      go_ret
      exact ⟨ret_int hs.symm, (HB.out.next hb2).1⟩
    · refine (sIsPoint_is c d _ _ h2).mono ?_
      rintro e w2 ⟨rfl, hb2⟩
      have HB2 := Lib.hid (HB.out.next hb2)
      clear hb2 HB k0 k1 k2 k3
      obtain ⟨k0, k1, k2, k3⟩ := HB2.out.c2
      have h : isP2 a b c d = true := by simp [isP2, h1, h2]
      obtain ⟨hA, hC⟩ := isP2_bd h
      obtain ⟨u, hu⟩ : ∃ u : Nat, u = (a - c).natAbs := ⟨_, rfl⟩
      obtain ⟨v, hv⟩ : ∃ v : Nat, v = (b - d).natAbs := ⟨_, rfl⟩
      have hu1 : u ≤ 200 := by omega
      have hv1 : v ≤ 200 := by omega
      have HU : Hid (extV true (a - c) (c - a) = u) := Lib.hid (by rw [ext_sub, hu])
      have HV : Hid (extV true (b - d) (d - b) = v) := Lib.hid (by rw [ext_sub, hv])
      have HQ : Hid (stepsV a b c d = (u : Int) + v) := Lib.hid (by rw [steps_yes h, HU.out, HV.out])
      have HU' : Hid (extV true (IntKind.i64.wrap (a - c)) (IntKind.i64.wrap (c - a)) = u) := Lib.hid (by rw [wrap_id (by omega), wrap_id (by omega), HU.out])
      have HV' : Hid (extV true (IntKind.i64.wrap (b - d)) (IntKind.i64.wrap (d - b)) = v) := Lib.hid (by rw [wrap_id (by omega), wrap_id (by omega), HV.out])
      clear h h1 h2 hu hv
      go_wp2_with fail
      go_region_held3 (fun w' => w'.cell? ⟨w.heap.size, 0, none⟩ = some (.int .i64 a) ∧ w'.cell? ⟨w.heap.size, 1, none⟩ = some (.int .i64 b) ∧ w'.cell? ⟨w.heap.size + 1, 0, none⟩ = some (.int .i64 c) ∧ w'.cell? ⟨w.heap.size + 1, 1, none⟩ = some (.int .i64 d)) (first | exact ⟨k0, k1, k2, k3⟩ | exact HB9.out.c2) (first
        | (go_at_call 77; refine (smax_is _ _ _ _ (by first | exact HU'.out | exact HV'.out)).mono ?_; rintro e w9 ⟨rfl, hb9⟩; have HB9 := Lib.hid (Boxes.next (by first | exact HB9.out | exact HB9.out.drew | exact HB2.out | exact HB2.out.drew) hb9)) | fail)
      all_goals
        go_wp2
        go_ret
        exact ⟨ret_int ((wrap_id (by omega)).trans HQ.out.symm), HB9.out.1⟩
theorem stepsBetween_any (a b c d : Int) (w : World) :
    Calls Try.prog 89 #[PtV a b, PtV c d] w fun e w' => e = .returned (.int .i64 (stepsV a b c d)) ∧ Below w.heap.size w w' := by
  go_enter Try.func89, Try.ntmps89
  go_wp2_with fail
  refine (arePoints_any _ _ [(a, b), (c, d)] _ (seesP_new _ _ _ _ _ _ (by rfl) (by simp) (by simp)) (by simp)).mono ?_
  rintro e w1 ⟨rfl, hb1⟩
  have HB := Lib.hid (((Boxes.of2 w 25).al _).next hb1)
  clear hb1
  have he : allP [(a, b), (c, d)] = isP2 a b c d := by simp [allP, isP2]
  cases h : isP2 a b c d
  · have hx : allP [(a, b), (c, d)] = false := he.trans h
    have HS := Lib.hid (steps_no h)
    clear he h
    go_wp2
    go_ret
    exact ⟨ret_int HS.out.symm, HB.out.1⟩
  · have hx : allP [(a, b), (c, d)] = true := he.trans h
    obtain ⟨hA, hC⟩ := isP2_bd h
    obtain ⟨u, hu⟩ : ∃ u : Nat, u = (a - c).natAbs := ⟨_, rfl⟩
    obtain ⟨v, hv⟩ : ∃ v : Nat, v = (b - d).natAbs := ⟨_, rfl⟩
    have hu1 : u ≤ 200 := by omega
    have hv1 : v ≤ 200 := by omega
    have HU : Hid (extV true (a - c) (c - a) = u) := Lib.hid (by rw [ext_sub, hu])
    have HV : Hid (extV true (b - d) (d - b) = v) := Lib.hid (by rw [ext_sub, hv])
    have HQ : Hid (stepsV a b c d = (u : Int) + v) := Lib.hid (by rw [steps_yes h, HU.out, HV.out])
    obtain ⟨k0, k1, k2, k3⟩ := HB.out.c2
    clear he h hu hv
    go_wp2_with fail
    go_region_held3 (fun w' => w'.cell? ⟨w.heap.size, 0, none⟩ = some (.int .i64 a) ∧ w'.cell? ⟨w.heap.size, 1, none⟩ = some (.int .i64 b) ∧ w'.cell? ⟨w.heap.size + 1, 0, none⟩ = some (.int .i64 c) ∧ w'.cell? ⟨w.heap.size + 1, 1, none⟩ = some (.int .i64 d)) (first | exact ⟨k0, k1, k2, k3⟩ | exact HB9.out.c2) (first
      | (go_at_call 114; refine (distance_is _ _ _ _ (by omega) (by omega) (by first | exact HU.out | exact HV.out)).mono ?_; rintro e w9 ⟨rfl, hb9⟩; have HB9 := Lib.hid (Boxes.next (by first | exact HB9.out | exact HB9.out.drew | exact HB.out | exact HB.out.drew) hb9)) | fail)
    all_goals
      go_wp2
      go_ret
      exact ⟨ret_int ((wrap_id (by omega)).trans HQ.out.symm), HB9.out.1⟩
/-- The order of points: by rows. -/
def befV (a b c d : Int) : Bool := decide (b < d ∨ b = d ∧ a < c)
theorem bef_1 {a b c d : Int} (h : b < d) : befV a b c d = true := by unfold befV; exact decide_eq_true (by omega)
theorem bef_2 {a b c d : Int} (h : ¬ b < d) (h' : ¬ b = d) : befV a b c d = false := by unfold befV; exact decide_eq_false (by omega)
theorem bef_3 {a b c d : Int} (h' : b = d) : befV a b c d = decide (a < c) := by unfold befV; exact decide_eq_decide.2 (by omega)
end Go.Proofs.Ytjnbdbgkecfkcaa
