/- Segments: how two segments meet, in the model: those that do not lie apart. -/
import Derived.Test.YtbnjaaegbmhopaaGreatDoorSegS4a
namespace Go.Proofs.YtbnjaaegbmhopaaGreatDoor
open Go.ChangeShapes Go.WideShapes Go.ChangeAt Go.RowKit
set_option linter.unusedVariables false

set_option maxRecDepth 100000 in
set_option maxHeartbeats 4000000 in
theorem sHowMeet_one (a b c d p q r s : Int) (w : World) (hs : isS a b c d = true) (ht : isS p q r s = true) (hx : ¬ Apart a b c d p q r s) (e0 : (shL a b c d p q r s).length = 1) (e2 : howV a b c d p q r s = 1) :
    Calls Tryz.prog 113 #[SegV a b c d, SegV p q r s] w fun e w' => e = .returned (.int .i64 (howV a b c d p q r s)) ∧ Below w.heap.size w w' := by
  obtain ⟨z, hz⟩ : ∃ z, howV a b c d p q r s = z := ⟨_, rfl⟩
  rw [hz]
  have hx4 : ¬ max a c < min p r ∧ ¬ max p r < min a c ∧ ¬ max b d < min q s ∧ ¬ max q s < min b d := by
    unfold Apart at hx; omega
  obtain ⟨h1, h2, h3, h4⟩ := hx4
  have HE := Lib.hid (hz.symm.trans e2)
  have HN := Lib.hid e0
  clear hx hz e0 e2
  have HB := Lib.hid (Vars.of2 w (SegC a b c d) (SegC p q r s) 78 78)
  go_enter Tryz.func113, Tryz.ntmps113
  go_wp2_with fail
  refine (sIsSegment_is a b c d _ _ hs).mono ?_
  rintro e w1 ⟨rfl, hb1⟩
  have HB1 := Lib.hid (HB.out.next hb1)
  clear hb1 HB
  obtain ⟨k0, k1, k2, k3, k4, k5, k6, k7⟩ := HB1.out.c44
  go_wp2_with fail
  refine (sIsSegment_is p q r s _ _ ht).mono ?_
  rintro e w2 ⟨rfl, hb2⟩
  have HB2 := Lib.hid (HB1.out.next hb2)
  clear hb2 HB1 k0 k1 k2 k3 k4 k5 k6 k7 hs ht
  obtain ⟨k0, k1, k2, k3, k4, k5, k6, k7⟩ := HB2.out.c44
  go_upto_region 3 with fail
  go_cut [78] (fun s78 wx => s78 = .bool false ∧ Hid (Vars w wx [SegC a b c d, SegC p q r s]))
  case first =>
    have HB2 := Lib.hid HB2.out.drew
    refine wp_region_held_drew (S := (fun w' => w'.cell? ⟨w.heap.size, 0, none⟩ = some (.int .i64 a) ∧ w'.cell? ⟨w.heap.size, 1, none⟩ = some (.int .i64 b) ∧ w'.cell? ⟨w.heap.size, 2, none⟩ = some (.int .i64 c) ∧ w'.cell? ⟨w.heap.size, 3, none⟩ = some (.int .i64 d) ∧ w'.cell? ⟨w.heap.size + 1, 0, none⟩ = some (.int .i64 p) ∧ w'.cell? ⟨w.heap.size + 1, 1, none⟩ = some (.int .i64 q) ∧ w'.cell? ⟨w.heap.size + 1, 2, none⟩ = some (.int .i64 r) ∧ w'.cell? ⟨w.heap.size + 1, 3, none⟩ = some (.int .i64 s))) (by kernel_rfl) HB2.out.c44 (fun hHeld => ?_)
    have d1 : decide (max a c < min p r) = false := decide_eq_false (by omega)
    have d2 : decide (max p r < min a c) = false := decide_eq_false (by omega)
    have d3 : decide (max b d < min q s) = false := decide_eq_false (by omega)
    have d4 : decide (max q s < min b d) = false := decide_eq_false (by omega)
    refine to_lin (T := hm3T) (n := 66) hm3S ⟨by kernel_rfl, by kernel_rfl, by kernel_rfl⟩ (by kernel_rfl) (fun hTag => ?_)
    iterate 12 (refine lin_on (v := ?_) rfl (fun _ _ _ h => h) (by rfl) ?_ (by assumption) ?_; rotate_left; (· (intro wq hSw; go_simp; try with_reducible rfl)); try simp only [Act.put, List.setIfInBounds_toArray, List.set_cons_zero, List.set_cons_succ])
    refine lin_call rfl (by rfl) (fun K hK => ?_)
    go_simp
    go_at_call 112
    refine (smax_mm _ _ _).mono ?_
    rintro e w' ⟨rfl, rfl⟩
    go_wp2_with fail
    refine hK.out _ _ ?_ (fun hHeld => ?_)
    · exact hHeld
    clear hK K
    try simp only [Act.put, List.setIfInBounds_toArray, List.set_cons_zero, List.set_cons_succ]
    refine lin_call rfl (by rfl) (fun K hK => ?_)
    go_simp
    go_at_call 138
    refine (smin_mm _ _ _).mono ?_
    rintro e w' ⟨rfl, rfl⟩
    go_wp2_with fail
    refine hK.out _ _ ?_ (fun hHeld => ?_)
    · exact hHeld
    clear hK K
    try simp only [Act.put, List.setIfInBounds_toArray, List.set_cons_zero, List.set_cons_succ]
    iterate 14 (refine lin_on (v := ?_) rfl (fun _ _ _ h => h) (by rfl) ?_ (by assumption) ?_; rotate_left; (· (intro wq hSw; go_simp; try with_reducible rfl)); try simp only [Act.put, List.setIfInBounds_toArray, List.set_cons_zero, List.set_cons_succ])
    refine lin_call rfl (by rfl) (fun K hK => ?_)
    go_simp
    go_at_call 112
    refine (smax_mm _ _ _).mono ?_
    rintro e w' ⟨rfl, rfl⟩
    go_wp2_with fail
    refine hK.out _ _ ?_ (fun hHeld => ?_)
    · exact hHeld
    clear hK K
    try simp only [Act.put, List.setIfInBounds_toArray, List.set_cons_zero, List.set_cons_succ]
    refine lin_call rfl (by rfl) (fun K hK => ?_)
    go_simp
    go_at_call 138
    refine (smin_mm _ _ _).mono ?_
    rintro e w' ⟨rfl, rfl⟩
    go_wp2_with fail
    refine hK.out _ _ ?_ (fun hHeld => ?_)
    · exact hHeld
    clear hK K
    try simp only [Act.put, List.setIfInBounds_toArray, List.set_cons_zero, List.set_cons_succ]
    iterate 15 (refine lin_on (v := ?_) rfl (fun _ _ _ h => h) (by rfl) ?_ (by assumption) ?_; rotate_left; (· (intro wq hSw; go_simp; try with_reducible rfl)); try simp only [Act.put, List.setIfInBounds_toArray, List.set_cons_zero, List.set_cons_succ])
    refine lin_call rfl (by rfl) (fun K hK => ?_)
    go_simp
    go_at_call 112
    refine (smax_mm _ _ _).mono ?_
    rintro e w' ⟨rfl, rfl⟩
    go_wp2_with fail
    refine hK.out _ _ ?_ (fun hHeld => ?_)
    · exact hHeld
    clear hK K
    try simp only [Act.put, List.setIfInBounds_toArray, List.set_cons_zero, List.set_cons_succ]
    refine lin_call rfl (by rfl) (fun K hK => ?_)
    go_simp
    go_at_call 138
    refine (smin_mm _ _ _).mono ?_
    rintro e w' ⟨rfl, rfl⟩
    go_wp2_with fail
    refine hK.out _ _ ?_ (fun hHeld => ?_)
    · exact hHeld
    clear hK K
    try simp only [Act.put, List.setIfInBounds_toArray, List.set_cons_zero, List.set_cons_succ]
    iterate 15 (refine lin_on (v := ?_) rfl (fun _ _ _ h => h) (by rfl) ?_ (by assumption) ?_; rotate_left; (· (intro wq hSw; go_simp; try with_reducible rfl)); try simp only [Act.put, List.setIfInBounds_toArray, List.set_cons_zero, List.set_cons_succ])
    refine lin_call rfl (by rfl) (fun K hK => ?_)
    go_simp
    go_at_call 112
    refine (smax_mm _ _ _).mono ?_
    rintro e w' ⟨rfl, rfl⟩
    go_wp2_with fail
    refine hK.out _ _ ?_ (fun hHeld => ?_)
    · exact hHeld
    clear hK K
    try simp only [Act.put, List.setIfInBounds_toArray, List.set_cons_zero, List.set_cons_succ]
    refine lin_call rfl (by rfl) (fun K hK => ?_)
    go_simp
    go_at_call 138
    refine (smin_mm _ _ _).mono ?_
    rintro e w' ⟨rfl, rfl⟩
    go_wp2_with fail
    refine hK.out _ _ ?_ (fun hHeld => ?_)
    · exact hHeld
    clear hK K
    try simp only [Act.put, List.setIfInBounds_toArray, List.set_cons_zero, List.set_cons_succ]
    iterate 2 (refine lin_on (v := ?_) rfl (fun _ _ _ h => h) (by rfl) ?_ (by assumption) ?_; rotate_left; (· (intro wq hSw; go_simp; try with_reducible rfl)); try simp only [Act.put, List.setIfInBounds_toArray, List.set_cons_zero, List.set_cons_succ])
    refine lin_done ?_
    go_wp2_with fail
    go_meet
    exact ⟨rfl, HB2⟩
  case rest =>
  obtain ⟨rfl, HB2⟩ := hcut
  clear k0 k1 k2 k3 k4 k5 k6 k7
  obtain ⟨k0, k1, k2, k3, k4, k5, k6, k7⟩ := HB2.out.c44
  clear h1 h2 h3 h4
  go_wp2_with fail
  refine (l5Shared_is a b c d p q r s 1 _ HN.out).mono ?_
  rintro e w3 ⟨rfl, hb3⟩
  have HB := Lib.hid (HB2.out.next hb3)
  clear hb3 HB2 HN k0 k1 k2 k3 k4 k5 k6 k7
  go_wp2
  go_ret
  exact ⟨ret_int HE.out.symm, HB.out.1⟩

set_option maxRecDepth 100000 in
set_option maxHeartbeats 4000000 in
theorem sHowMeet_many (a b c d p q r s : Int) (w : World) (hs : isS a b c d = true) (ht : isS p q r s = true) (hx : ¬ Apart a b c d p q r s) (e0 : 2 ≤ (shL a b c d p q r s).length) (e2 : howV a b c d p q r s = 3) :
    Calls Tryz.prog 113 #[SegV a b c d, SegV p q r s] w fun e w' => e = .returned (.int .i64 (howV a b c d p q r s)) ∧ Below w.heap.size w w' := by
  obtain ⟨z, hz⟩ : ∃ z, howV a b c d p q r s = z := ⟨_, rfl⟩
  rw [hz]
  have hx4 : ¬ max a c < min p r ∧ ¬ max p r < min a c ∧ ¬ max b d < min q s ∧ ¬ max q s < min b d := by
    unfold Apart at hx; omega
  obtain ⟨h1, h2, h3, h4⟩ := hx4
  have HE := Lib.hid (hz.symm.trans e2)
  have HN := Lib.hid e0
  clear hx hz e0 e2
  obtain ⟨n, hn⟩ : ∃ n, (shL a b c d p q r s).length = n := ⟨_, rfl⟩
  have h2n := HN.out
  rw [hn] at h2n
  clear HN
  have HN := Lib.hid hn
  clear hn
  have HB := Lib.hid (Vars.of2 w (SegC a b c d) (SegC p q r s) 78 78)
  go_enter Tryz.func113, Tryz.ntmps113
  go_wp2_with fail
  refine (sIsSegment_is a b c d _ _ hs).mono ?_
  rintro e w1 ⟨rfl, hb1⟩
  have HB1 := Lib.hid (HB.out.next hb1)
  clear hb1 HB
  obtain ⟨k0, k1, k2, k3, k4, k5, k6, k7⟩ := HB1.out.c44
  go_wp2_with fail
  refine (sIsSegment_is p q r s _ _ ht).mono ?_
  rintro e w2 ⟨rfl, hb2⟩
  have HB2 := Lib.hid (HB1.out.next hb2)
  clear hb2 HB1 k0 k1 k2 k3 k4 k5 k6 k7 hs ht
  obtain ⟨k0, k1, k2, k3, k4, k5, k6, k7⟩ := HB2.out.c44
  go_upto_region 3 with fail
  go_cut [78] (fun s78 wx => s78 = .bool false ∧ Hid (Vars w wx [SegC a b c d, SegC p q r s]))
  case first =>
    have HB2 := Lib.hid HB2.out.drew
    refine wp_region_held_drew (S := (fun w' => w'.cell? ⟨w.heap.size, 0, none⟩ = some (.int .i64 a) ∧ w'.cell? ⟨w.heap.size, 1, none⟩ = some (.int .i64 b) ∧ w'.cell? ⟨w.heap.size, 2, none⟩ = some (.int .i64 c) ∧ w'.cell? ⟨w.heap.size, 3, none⟩ = some (.int .i64 d) ∧ w'.cell? ⟨w.heap.size + 1, 0, none⟩ = some (.int .i64 p) ∧ w'.cell? ⟨w.heap.size + 1, 1, none⟩ = some (.int .i64 q) ∧ w'.cell? ⟨w.heap.size + 1, 2, none⟩ = some (.int .i64 r) ∧ w'.cell? ⟨w.heap.size + 1, 3, none⟩ = some (.int .i64 s))) (by kernel_rfl) HB2.out.c44 (fun hHeld => ?_)
    have d1 : decide (max a c < min p r) = false := decide_eq_false (by omega)
    have d2 : decide (max p r < min a c) = false := decide_eq_false (by omega)
    have d3 : decide (max b d < min q s) = false := decide_eq_false (by omega)
    have d4 : decide (max q s < min b d) = false := decide_eq_false (by omega)
    refine to_lin (T := hm3T) (n := 66) hm3S ⟨by kernel_rfl, by kernel_rfl, by kernel_rfl⟩ (by kernel_rfl) (fun hTag => ?_)
    iterate 12 (refine lin_on (v := ?_) rfl (fun _ _ _ h => h) (by rfl) ?_ (by assumption) ?_; rotate_left; (· (intro wq hSw; go_simp; try with_reducible rfl)); try simp only [Act.put, List.setIfInBounds_toArray, List.set_cons_zero, List.set_cons_succ])
    refine lin_call rfl (by rfl) (fun K hK => ?_)
    go_simp
    go_at_call 112
    refine (smax_mm _ _ _).mono ?_
    rintro e w' ⟨rfl, rfl⟩
    go_wp2_with fail
    refine hK.out _ _ ?_ (fun hHeld => ?_)
    · exact hHeld
    clear hK K
    try simp only [Act.put, List.setIfInBounds_toArray, List.set_cons_zero, List.set_cons_succ]
    refine lin_call rfl (by rfl) (fun K hK => ?_)
    go_simp
    go_at_call 138
    refine (smin_mm _ _ _).mono ?_
    rintro e w' ⟨rfl, rfl⟩
    go_wp2_with fail
    refine hK.out _ _ ?_ (fun hHeld => ?_)
    · exact hHeld
    clear hK K
    try simp only [Act.put, List.setIfInBounds_toArray, List.set_cons_zero, List.set_cons_succ]
    iterate 14 (refine lin_on (v := ?_) rfl (fun _ _ _ h => h) (by rfl) ?_ (by assumption) ?_; rotate_left; (· (intro wq hSw; go_simp; try with_reducible rfl)); try simp only [Act.put, List.setIfInBounds_toArray, List.set_cons_zero, List.set_cons_succ])
    refine lin_call rfl (by rfl) (fun K hK => ?_)
    go_simp
    go_at_call 112
    refine (smax_mm _ _ _).mono ?_
    rintro e w' ⟨rfl, rfl⟩
    go_wp2_with fail
    refine hK.out _ _ ?_ (fun hHeld => ?_)
    · exact hHeld
    clear hK K
    try simp only [Act.put, List.setIfInBounds_toArray, List.set_cons_zero, List.set_cons_succ]
    refine lin_call rfl (by rfl) (fun K hK => ?_)
    go_simp
    go_at_call 138
    refine (smin_mm _ _ _).mono ?_
    rintro e w' ⟨rfl, rfl⟩
    go_wp2_with fail
    refine hK.out _ _ ?_ (fun hHeld => ?_)
    · exact hHeld
    clear hK K
    try simp only [Act.put, List.setIfInBounds_toArray, List.set_cons_zero, List.set_cons_succ]
    iterate 15 (refine lin_on (v := ?_) rfl (fun _ _ _ h => h) (by rfl) ?_ (by assumption) ?_; rotate_left; (· (intro wq hSw; go_simp; try with_reducible rfl)); try simp only [Act.put, List.setIfInBounds_toArray, List.set_cons_zero, List.set_cons_succ])
    refine lin_call rfl (by rfl) (fun K hK => ?_)
    go_simp
    go_at_call 112
    refine (smax_mm _ _ _).mono ?_
    rintro e w' ⟨rfl, rfl⟩
    go_wp2_with fail
    refine hK.out _ _ ?_ (fun hHeld => ?_)
    · exact hHeld
    clear hK K
    try simp only [Act.put, List.setIfInBounds_toArray, List.set_cons_zero, List.set_cons_succ]
    refine lin_call rfl (by rfl) (fun K hK => ?_)
    go_simp
    go_at_call 138
    refine (smin_mm _ _ _).mono ?_
    rintro e w' ⟨rfl, rfl⟩
    go_wp2_with fail
    refine hK.out _ _ ?_ (fun hHeld => ?_)
    · exact hHeld
    clear hK K
    try simp only [Act.put, List.setIfInBounds_toArray, List.set_cons_zero, List.set_cons_succ]
    iterate 15 (refine lin_on (v := ?_) rfl (fun _ _ _ h => h) (by rfl) ?_ (by assumption) ?_; rotate_left; (· (intro wq hSw; go_simp; try with_reducible rfl)); try simp only [Act.put, List.setIfInBounds_toArray, List.set_cons_zero, List.set_cons_succ])
    refine lin_call rfl (by rfl) (fun K hK => ?_)
    go_simp
    go_at_call 112
    refine (smax_mm _ _ _).mono ?_
    rintro e w' ⟨rfl, rfl⟩
    go_wp2_with fail
    refine hK.out _ _ ?_ (fun hHeld => ?_)
    · exact hHeld
    clear hK K
    try simp only [Act.put, List.setIfInBounds_toArray, List.set_cons_zero, List.set_cons_succ]
    refine lin_call rfl (by rfl) (fun K hK => ?_)
    go_simp
    go_at_call 138
    refine (smin_mm _ _ _).mono ?_
    rintro e w' ⟨rfl, rfl⟩
    go_wp2_with fail
    refine hK.out _ _ ?_ (fun hHeld => ?_)
    · exact hHeld
    clear hK K
    try simp only [Act.put, List.setIfInBounds_toArray, List.set_cons_zero, List.set_cons_succ]
    iterate 2 (refine lin_on (v := ?_) rfl (fun _ _ _ h => h) (by rfl) ?_ (by assumption) ?_; rotate_left; (· (intro wq hSw; go_simp; try with_reducible rfl)); try simp only [Act.put, List.setIfInBounds_toArray, List.set_cons_zero, List.set_cons_succ])
    refine lin_done ?_
    go_wp2_with fail
    go_meet
    exact ⟨rfl, HB2⟩
  case rest =>
  obtain ⟨rfl, HB2⟩ := hcut
  clear k0 k1 k2 k3 k4 k5 k6 k7
  obtain ⟨k0, k1, k2, k3, k4, k5, k6, k7⟩ := HB2.out.c44
  clear h1 h2 h3 h4
  go_wp2_with fail
  refine (l5Shared_is a b c d p q r s n _ HN.out).mono ?_
  rintro e w3 ⟨rfl, hb3⟩
  have HB := Lib.hid (HB2.out.next hb3)
  clear hb3 HB2 HN k0 k1 k2 k3 k4 k5 k6 k7
  have hn0 : (((n : Nat) : Int) == 0) = false := by simp; omega
  have hn1 : (((n : Nat) : Int) == 1) = false := by simp; omega
  go_wp2
  go_ret
  exact ⟨ret_int HE.out.symm, HB.out.1⟩

set_option maxRecDepth 100000 in
set_option maxHeartbeats 4000000 in
theorem sHowMeet_cross (a b c d p q r s : Int) (w : World) (hs : isS a b c d = true) (ht : isS p q r s = true) (hx : ¬ Apart a b c d p q r s) (e0 : (shL a b c d p q r s).length = 0) (hm1 : sideV a b c d p q * sideV a b c d r s < 0) (hm2 : sideV p q r s a b * sideV p q r s c d < 0) (e2 : howV a b c d p q r s = 2) :
    Calls Tryz.prog 113 #[SegV a b c d, SegV p q r s] w fun e w' => e = .returned (.int .i64 (howV a b c d p q r s)) ∧ Below w.heap.size w w' := by
  obtain ⟨z, hz⟩ : ∃ z, howV a b c d p q r s = z := ⟨_, rfl⟩
  rw [hz]
  have hx4 : ¬ max a c < min p r ∧ ¬ max p r < min a c ∧ ¬ max b d < min q s ∧ ¬ max q s < min b d := by
    unfold Apart at hx; omega
  obtain ⟨h1, h2, h3, h4⟩ := hx4
  have HE := Lib.hid (hz.symm.trans e2)
  have HN := Lib.hid e0
  clear hx hz e0 e2
  obtain ⟨s1, hs1⟩ : ∃ z, sideV a b c d p q = z := ⟨_, rfl⟩
  obtain ⟨s2, hs2⟩ : ∃ z, sideV a b c d r s = z := ⟨_, rfl⟩
  obtain ⟨s3, hs3⟩ : ∃ z, sideV p q r s a b = z := ⟨_, rfl⟩
  obtain ⟨s4, hs4⟩ : ∃ z, sideV p q r s c d = z := ⟨_, rfl⟩
  have hw1 : IntKind.i64.wrap (s1 * s2) = s1 * s2 := by rw [← hs1, ← hs2]; exact sides_mul (sides3 _ _ _ _ _ _) (sides3 _ _ _ _ _ _)
  have hw2 : IntKind.i64.wrap (s3 * s4) = s3 * s4 := by rw [← hs3, ← hs4]; exact sides_mul (sides3 _ _ _ _ _ _) (sides3 _ _ _ _ _ _)
  obtain ⟨m1, hM1⟩ : ∃ m, s1 * s2 = m := ⟨_, rfl⟩
  obtain ⟨m2, hM2⟩ : ∃ m, s3 * s4 = m := ⟨_, rfl⟩
  have hd1 : decide (m1 < 0) = true := by rw [← hM1, ← hs1, ← hs2]; exact decide_eq_true hm1
  have hd2 : decide (m2 < 0) = true := by rw [← hM2, ← hs3, ← hs4]; exact decide_eq_true hm2
  have H1 := Lib.hid hs1
  have H2 := Lib.hid hs2
  have H3 := Lib.hid hs3
  have H4 := Lib.hid hs4
  have HW1 := Lib.hid (hw1.trans hM1)
  have HW2 := Lib.hid (hw2.trans hM2)
  clear hs1 hs2 hs3 hs4 hM1 hM2 hw1 hw2
  have HD1 := Lib.hid hd1
  have HD2 := Lib.hid hd2
  clear hm1 hm2 hd1 hd2
  have HB := Lib.hid (Vars.of2 w (SegC a b c d) (SegC p q r s) 78 78)
  go_enter Tryz.func113, Tryz.ntmps113
  go_wp2_with fail
  refine (sIsSegment_is a b c d _ _ hs).mono ?_
  rintro e w1 ⟨rfl, hb1⟩
  have HB1 := Lib.hid (HB.out.next hb1)
  clear hb1 HB
  obtain ⟨k0, k1, k2, k3, k4, k5, k6, k7⟩ := HB1.out.c44
  go_wp2_with fail
  refine (sIsSegment_is p q r s _ _ ht).mono ?_
  rintro e w2 ⟨rfl, hb2⟩
  have HB2 := Lib.hid (HB1.out.next hb2)
  clear hb2 HB1 k0 k1 k2 k3 k4 k5 k6 k7 hs ht
  obtain ⟨k0, k1, k2, k3, k4, k5, k6, k7⟩ := HB2.out.c44
  go_upto_region 3 with fail
  go_cut [78] (fun s78 wx => s78 = .bool false ∧ Hid (Vars w wx [SegC a b c d, SegC p q r s]))
  case first =>
    have HB2 := Lib.hid HB2.out.drew
    refine wp_region_held_drew (S := (fun w' => w'.cell? ⟨w.heap.size, 0, none⟩ = some (.int .i64 a) ∧ w'.cell? ⟨w.heap.size, 1, none⟩ = some (.int .i64 b) ∧ w'.cell? ⟨w.heap.size, 2, none⟩ = some (.int .i64 c) ∧ w'.cell? ⟨w.heap.size, 3, none⟩ = some (.int .i64 d) ∧ w'.cell? ⟨w.heap.size + 1, 0, none⟩ = some (.int .i64 p) ∧ w'.cell? ⟨w.heap.size + 1, 1, none⟩ = some (.int .i64 q) ∧ w'.cell? ⟨w.heap.size + 1, 2, none⟩ = some (.int .i64 r) ∧ w'.cell? ⟨w.heap.size + 1, 3, none⟩ = some (.int .i64 s))) (by kernel_rfl) HB2.out.c44 (fun hHeld => ?_)
    have d1 : decide (max a c < min p r) = false := decide_eq_false (by omega)
    have d2 : decide (max p r < min a c) = false := decide_eq_false (by omega)
    have d3 : decide (max b d < min q s) = false := decide_eq_false (by omega)
    have d4 : decide (max q s < min b d) = false := decide_eq_false (by omega)
    refine to_lin (T := hm3T) (n := 66) hm3S ⟨by kernel_rfl, by kernel_rfl, by kernel_rfl⟩ (by kernel_rfl) (fun hTag => ?_)
    iterate 12 (refine lin_on (v := ?_) rfl (fun _ _ _ h => h) (by rfl) ?_ (by assumption) ?_; rotate_left; (· (intro wq hSw; go_simp; try with_reducible rfl)); try simp only [Act.put, List.setIfInBounds_toArray, List.set_cons_zero, List.set_cons_succ])
    refine lin_call rfl (by rfl) (fun K hK => ?_)
    go_simp
    go_at_call 112
    refine (smax_mm _ _ _).mono ?_
    rintro e w' ⟨rfl, rfl⟩
    go_wp2_with fail
    refine hK.out _ _ ?_ (fun hHeld => ?_)
    · exact hHeld
    clear hK K
    try simp only [Act.put, List.setIfInBounds_toArray, List.set_cons_zero, List.set_cons_succ]
    refine lin_call rfl (by rfl) (fun K hK => ?_)
    go_simp
    go_at_call 138
    refine (smin_mm _ _ _).mono ?_
    rintro e w' ⟨rfl, rfl⟩
    go_wp2_with fail
    refine hK.out _ _ ?_ (fun hHeld => ?_)
    · exact hHeld
    clear hK K
    try simp only [Act.put, List.setIfInBounds_toArray, List.set_cons_zero, List.set_cons_succ]
    iterate 14 (refine lin_on (v := ?_) rfl (fun _ _ _ h => h) (by rfl) ?_ (by assumption) ?_; rotate_left; (· (intro wq hSw; go_simp; try with_reducible rfl)); try simp only [Act.put, List.setIfInBounds_toArray, List.set_cons_zero, List.set_cons_succ])
    refine lin_call rfl (by rfl) (fun K hK => ?_)
    go_simp
    go_at_call 112
    refine (smax_mm _ _ _).mono ?_
    rintro e w' ⟨rfl, rfl⟩
    go_wp2_with fail
    refine hK.out _ _ ?_ (fun hHeld => ?_)
    · exact hHeld
    clear hK K
    try simp only [Act.put, List.setIfInBounds_toArray, List.set_cons_zero, List.set_cons_succ]
    refine lin_call rfl (by rfl) (fun K hK => ?_)
    go_simp
    go_at_call 138
    refine (smin_mm _ _ _).mono ?_
    rintro e w' ⟨rfl, rfl⟩
    go_wp2_with fail
    refine hK.out _ _ ?_ (fun hHeld => ?_)
    · exact hHeld
    clear hK K
    try simp only [Act.put, List.setIfInBounds_toArray, List.set_cons_zero, List.set_cons_succ]
    iterate 15 (refine lin_on (v := ?_) rfl (fun _ _ _ h => h) (by rfl) ?_ (by assumption) ?_; rotate_left; (· (intro wq hSw; go_simp; try with_reducible rfl)); try simp only [Act.put, List.setIfInBounds_toArray, List.set_cons_zero, List.set_cons_succ])
    refine lin_call rfl (by rfl) (fun K hK => ?_)
    go_simp
    go_at_call 112
    refine (smax_mm _ _ _).mono ?_
    rintro e w' ⟨rfl, rfl⟩
    go_wp2_with fail
    refine hK.out _ _ ?_ (fun hHeld => ?_)
    · exact hHeld
    clear hK K
    try simp only [Act.put, List.setIfInBounds_toArray, List.set_cons_zero, List.set_cons_succ]
    refine lin_call rfl (by rfl) (fun K hK => ?_)
    go_simp
    go_at_call 138
    refine (smin_mm _ _ _).mono ?_
    rintro e w' ⟨rfl, rfl⟩
    go_wp2_with fail
    refine hK.out _ _ ?_ (fun hHeld => ?_)
    · exact hHeld
    clear hK K
    try simp only [Act.put, List.setIfInBounds_toArray, List.set_cons_zero, List.set_cons_succ]
    iterate 15 (refine lin_on (v := ?_) rfl (fun _ _ _ h => h) (by rfl) ?_ (by assumption) ?_; rotate_left; (· (intro wq hSw; go_simp; try with_reducible rfl)); try simp only [Act.put, List.setIfInBounds_toArray, List.set_cons_zero, List.set_cons_succ])
    refine lin_call rfl (by rfl) (fun K hK => ?_)
    go_simp
    go_at_call 112
    refine (smax_mm _ _ _).mono ?_
    rintro e w' ⟨rfl, rfl⟩
    go_wp2_with fail
    refine hK.out _ _ ?_ (fun hHeld => ?_)
    · exact hHeld
    clear hK K
    try simp only [Act.put, List.setIfInBounds_toArray, List.set_cons_zero, List.set_cons_succ]
    refine lin_call rfl (by rfl) (fun K hK => ?_)
    go_simp
    go_at_call 138
    refine (smin_mm _ _ _).mono ?_
    rintro e w' ⟨rfl, rfl⟩
    go_wp2_with fail
    refine hK.out _ _ ?_ (fun hHeld => ?_)
    · exact hHeld
    clear hK K
    try simp only [Act.put, List.setIfInBounds_toArray, List.set_cons_zero, List.set_cons_succ]
    iterate 2 (refine lin_on (v := ?_) rfl (fun _ _ _ h => h) (by rfl) ?_ (by assumption) ?_; rotate_left; (· (intro wq hSw; go_simp; try with_reducible rfl)); try simp only [Act.put, List.setIfInBounds_toArray, List.set_cons_zero, List.set_cons_succ])
    refine lin_done ?_
    go_wp2_with fail
    go_meet
    exact ⟨rfl, HB2⟩
  case rest =>
  obtain ⟨rfl, HB2⟩ := hcut
  clear k0 k1 k2 k3 k4 k5 k6 k7
  obtain ⟨k0, k1, k2, k3, k4, k5, k6, k7⟩ := HB2.out.c44
  clear h1 h2 h3 h4
  go_wp2_with fail
  refine (l5Shared_is a b c d p q r s 0 _ HN.out).mono ?_
  rintro e w3 ⟨rfl, hb3⟩
  have HB := Lib.hid (HB2.out.next hb3)
  clear hb3 HB2 HN k0 k1 k2 k3 k4 k5 k6 k7
  go_upto_region 7 with fail
  go_cut [117] (fun s117 wx => s117 = .bool true ∧ Hid (Vars w wx [SegC a b c d, SegC p q r s]))
  case first =>
    have hw1 := HW1.out
    have hw2 := HW2.out
    have hd1 := HD1.out
    have hd2 := HD2.out
    have HB := Lib.hid HB.out.drew
    refine wp_region_held_drew (S := (fun w' => w'.cell? ⟨w.heap.size, 0, none⟩ = some (.int .i64 a) ∧ w'.cell? ⟨w.heap.size, 1, none⟩ = some (.int .i64 b) ∧ w'.cell? ⟨w.heap.size, 2, none⟩ = some (.int .i64 c) ∧ w'.cell? ⟨w.heap.size, 3, none⟩ = some (.int .i64 d) ∧ w'.cell? ⟨w.heap.size + 1, 0, none⟩ = some (.int .i64 p) ∧ w'.cell? ⟨w.heap.size + 1, 1, none⟩ = some (.int .i64 q) ∧ w'.cell? ⟨w.heap.size + 1, 2, none⟩ = some (.int .i64 r) ∧ w'.cell? ⟨w.heap.size + 1, 3, none⟩ = some (.int .i64 s))) (by kernel_rfl) HB.out.c44 (fun hHeld => ?_)
    refine to_lin (T := hm7T) (n := 34) hm7S ⟨by kernel_rfl, by kernel_rfl, by kernel_rfl⟩ (by kernel_rfl) (fun hTag => ?_)
    iterate 12 (refine lin_on (v := ?_) rfl (fun _ _ _ h => h) (by rfl) ?_ (by assumption) ?_; rotate_left; (· (intro wq hSw; go_simp; try with_reducible rfl)); try simp only [Act.put, List.setIfInBounds_toArray, List.set_cons_zero, List.set_cons_succ])
    refine lin_call rfl (by rfl) (fun K hK => ?_)
    go_simp
    go_at_call 140
    refine (sSideOf_is _ _ _ _ _ _ _ _ H1.out).mono ?_
    rintro e w9 ⟨rfl, hb9⟩
    have HB := Lib.hid (HB.out.next hb9)
    clear hb9
    go_wp2_with fail
    refine hK.out _ _ ?_ (fun hHeld => ?_)
    · exact HB.out.c44
    clear hK K
    try simp only [Act.put, List.setIfInBounds_toArray, List.set_cons_zero, List.set_cons_succ]
    refine lin_call rfl (by rfl) (fun K hK => ?_)
    go_simp
    go_at_call 140
    refine (sSideOf_is _ _ _ _ _ _ _ _ H2.out).mono ?_
    rintro e w9 ⟨rfl, hb9⟩
    have HB := Lib.hid (HB.out.next hb9)
    clear hb9
    go_wp2_with fail
    refine hK.out _ _ ?_ (fun hHeld => ?_)
    · exact HB.out.c44
    clear hK K
    try simp only [Act.put, List.setIfInBounds_toArray, List.set_cons_zero, List.set_cons_succ]
    iterate 15 (refine lin_on (v := ?_) rfl (fun _ _ _ h => h) (by rfl) ?_ (by assumption) ?_; rotate_left; (· (intro wq hSw; go_simp; try with_reducible rfl)); try simp only [Act.put, List.setIfInBounds_toArray, List.set_cons_zero, List.set_cons_succ])
    refine lin_call rfl (by rfl) (fun K hK => ?_)
    go_simp
    go_at_call 140
    refine (sSideOf_is _ _ _ _ _ _ _ _ H3.out).mono ?_
    rintro e w9 ⟨rfl, hb9⟩
    have HB := Lib.hid (HB.out.next hb9)
    clear hb9
    go_wp2_with fail
    refine hK.out _ _ ?_ (fun hHeld => ?_)
    · exact HB.out.c44
    clear hK K
    try simp only [Act.put, List.setIfInBounds_toArray, List.set_cons_zero, List.set_cons_succ]
    refine lin_call rfl (by rfl) (fun K hK => ?_)
    go_simp
    go_at_call 140
    refine (sSideOf_is _ _ _ _ _ _ _ _ H4.out).mono ?_
    rintro e w9 ⟨rfl, hb9⟩
    have HB := Lib.hid (HB.out.next hb9)
    clear hb9
    go_wp2_with fail
    refine hK.out _ _ ?_ (fun hHeld => ?_)
    · exact HB.out.c44
    clear hK K
    try simp only [Act.put, List.setIfInBounds_toArray, List.set_cons_zero, List.set_cons_succ]
    iterate 3 (refine lin_on (v := ?_) rfl (fun _ _ _ h => h) (by rfl) ?_ (by assumption) ?_; rotate_left; (· (intro wq hSw; go_simp; try with_reducible rfl)); try simp only [Act.put, List.setIfInBounds_toArray, List.set_cons_zero, List.set_cons_succ])
    refine lin_done ?_
    go_wp2_with fail
    go_meet
    exact ⟨rfl, HB⟩
  case rest =>
  obtain ⟨rfl, HB⟩ := hcut
  go_wp2
  go_ret
  exact ⟨ret_int HE.out.symm, HB.out.1⟩

set_option maxRecDepth 100000 in
set_option maxHeartbeats 4000000 in
theorem sHowMeet_none2 (a b c d p q r s : Int) (w : World) (hs : isS a b c d = true) (ht : isS p q r s = true) (hx : ¬ Apart a b c d p q r s) (e0 : (shL a b c d p q r s).length = 0) (hm1 : sideV a b c d p q * sideV a b c d r s < 0) (hm2 : ¬ sideV p q r s a b * sideV p q r s c d < 0) (e2 : howV a b c d p q r s = 0) :
    Calls Tryz.prog 113 #[SegV a b c d, SegV p q r s] w fun e w' => e = .returned (.int .i64 (howV a b c d p q r s)) ∧ Below w.heap.size w w' := by
  obtain ⟨z, hz⟩ : ∃ z, howV a b c d p q r s = z := ⟨_, rfl⟩
  rw [hz]
  have hx4 : ¬ max a c < min p r ∧ ¬ max p r < min a c ∧ ¬ max b d < min q s ∧ ¬ max q s < min b d := by
    unfold Apart at hx; omega
  obtain ⟨h1, h2, h3, h4⟩ := hx4
  have HE := Lib.hid (hz.symm.trans e2)
  have HN := Lib.hid e0
  clear hx hz e0 e2
  obtain ⟨s1, hs1⟩ : ∃ z, sideV a b c d p q = z := ⟨_, rfl⟩
  obtain ⟨s2, hs2⟩ : ∃ z, sideV a b c d r s = z := ⟨_, rfl⟩
  obtain ⟨s3, hs3⟩ : ∃ z, sideV p q r s a b = z := ⟨_, rfl⟩
  obtain ⟨s4, hs4⟩ : ∃ z, sideV p q r s c d = z := ⟨_, rfl⟩
  have hw1 : IntKind.i64.wrap (s1 * s2) = s1 * s2 := by rw [← hs1, ← hs2]; exact sides_mul (sides3 _ _ _ _ _ _) (sides3 _ _ _ _ _ _)
  have hw2 : IntKind.i64.wrap (s3 * s4) = s3 * s4 := by rw [← hs3, ← hs4]; exact sides_mul (sides3 _ _ _ _ _ _) (sides3 _ _ _ _ _ _)
  obtain ⟨m1, hM1⟩ : ∃ m, s1 * s2 = m := ⟨_, rfl⟩
  obtain ⟨m2, hM2⟩ : ∃ m, s3 * s4 = m := ⟨_, rfl⟩
  have hd1 : decide (m1 < 0) = true := by rw [← hM1, ← hs1, ← hs2]; exact decide_eq_true hm1
  have hd2 : decide (m2 < 0) = false := by rw [← hM2, ← hs3, ← hs4]; exact decide_eq_false hm2
  have H1 := Lib.hid hs1
  have H2 := Lib.hid hs2
  have H3 := Lib.hid hs3
  have H4 := Lib.hid hs4
  have HW1 := Lib.hid (hw1.trans hM1)
  have HW2 := Lib.hid (hw2.trans hM2)
  clear hs1 hs2 hs3 hs4 hM1 hM2 hw1 hw2
  have HD1 := Lib.hid hd1
  have HD2 := Lib.hid hd2
  clear hm1 hm2 hd1 hd2
  have HB := Lib.hid (Vars.of2 w (SegC a b c d) (SegC p q r s) 78 78)
  go_enter Tryz.func113, Tryz.ntmps113
  go_wp2_with fail
  refine (sIsSegment_is a b c d _ _ hs).mono ?_
  rintro e w1 ⟨rfl, hb1⟩
  have HB1 := Lib.hid (HB.out.next hb1)
  clear hb1 HB
  obtain ⟨k0, k1, k2, k3, k4, k5, k6, k7⟩ := HB1.out.c44
  go_wp2_with fail
  refine (sIsSegment_is p q r s _ _ ht).mono ?_
  rintro e w2 ⟨rfl, hb2⟩
  have HB2 := Lib.hid (HB1.out.next hb2)
  clear hb2 HB1 k0 k1 k2 k3 k4 k5 k6 k7 hs ht
  obtain ⟨k0, k1, k2, k3, k4, k5, k6, k7⟩ := HB2.out.c44
  go_upto_region 3 with fail
  go_cut [78] (fun s78 wx => s78 = .bool false ∧ Hid (Vars w wx [SegC a b c d, SegC p q r s]))
  case first =>
    have HB2 := Lib.hid HB2.out.drew
    refine wp_region_held_drew (S := (fun w' => w'.cell? ⟨w.heap.size, 0, none⟩ = some (.int .i64 a) ∧ w'.cell? ⟨w.heap.size, 1, none⟩ = some (.int .i64 b) ∧ w'.cell? ⟨w.heap.size, 2, none⟩ = some (.int .i64 c) ∧ w'.cell? ⟨w.heap.size, 3, none⟩ = some (.int .i64 d) ∧ w'.cell? ⟨w.heap.size + 1, 0, none⟩ = some (.int .i64 p) ∧ w'.cell? ⟨w.heap.size + 1, 1, none⟩ = some (.int .i64 q) ∧ w'.cell? ⟨w.heap.size + 1, 2, none⟩ = some (.int .i64 r) ∧ w'.cell? ⟨w.heap.size + 1, 3, none⟩ = some (.int .i64 s))) (by kernel_rfl) HB2.out.c44 (fun hHeld => ?_)
    have d1 : decide (max a c < min p r) = false := decide_eq_false (by omega)
    have d2 : decide (max p r < min a c) = false := decide_eq_false (by omega)
    have d3 : decide (max b d < min q s) = false := decide_eq_false (by omega)
    have d4 : decide (max q s < min b d) = false := decide_eq_false (by omega)
    refine to_lin (T := hm3T) (n := 66) hm3S ⟨by kernel_rfl, by kernel_rfl, by kernel_rfl⟩ (by kernel_rfl) (fun hTag => ?_)
    iterate 12 (refine lin_on (v := ?_) rfl (fun _ _ _ h => h) (by rfl) ?_ (by assumption) ?_; rotate_left; (· (intro wq hSw; go_simp; try with_reducible rfl)); try simp only [Act.put, List.setIfInBounds_toArray, List.set_cons_zero, List.set_cons_succ])
    refine lin_call rfl (by rfl) (fun K hK => ?_)
    go_simp
    go_at_call 112
    refine (smax_mm _ _ _).mono ?_
    rintro e w' ⟨rfl, rfl⟩
    go_wp2_with fail
    refine hK.out _ _ ?_ (fun hHeld => ?_)
    · exact hHeld
    clear hK K
    try simp only [Act.put, List.setIfInBounds_toArray, List.set_cons_zero, List.set_cons_succ]
    refine lin_call rfl (by rfl) (fun K hK => ?_)
    go_simp
    go_at_call 138
    refine (smin_mm _ _ _).mono ?_
    rintro e w' ⟨rfl, rfl⟩
    go_wp2_with fail
    refine hK.out _ _ ?_ (fun hHeld => ?_)
    · exact hHeld
    clear hK K
    try simp only [Act.put, List.setIfInBounds_toArray, List.set_cons_zero, List.set_cons_succ]
    iterate 14 (refine lin_on (v := ?_) rfl (fun _ _ _ h => h) (by rfl) ?_ (by assumption) ?_; rotate_left; (· (intro wq hSw; go_simp; try with_reducible rfl)); try simp only [Act.put, List.setIfInBounds_toArray, List.set_cons_zero, List.set_cons_succ])
    refine lin_call rfl (by rfl) (fun K hK => ?_)
    go_simp
    go_at_call 112
    refine (smax_mm _ _ _).mono ?_
    rintro e w' ⟨rfl, rfl⟩
    go_wp2_with fail
    refine hK.out _ _ ?_ (fun hHeld => ?_)
    · exact hHeld
    clear hK K
    try simp only [Act.put, List.setIfInBounds_toArray, List.set_cons_zero, List.set_cons_succ]
    refine lin_call rfl (by rfl) (fun K hK => ?_)
    go_simp
    go_at_call 138
    refine (smin_mm _ _ _).mono ?_
    rintro e w' ⟨rfl, rfl⟩
    go_wp2_with fail
    refine hK.out _ _ ?_ (fun hHeld => ?_)
    · exact hHeld
    clear hK K
    try simp only [Act.put, List.setIfInBounds_toArray, List.set_cons_zero, List.set_cons_succ]
    iterate 15 (refine lin_on (v := ?_) rfl (fun _ _ _ h => h) (by rfl) ?_ (by assumption) ?_; rotate_left; (· (intro wq hSw; go_simp; try with_reducible rfl)); try simp only [Act.put, List.setIfInBounds_toArray, List.set_cons_zero, List.set_cons_succ])
    refine lin_call rfl (by rfl) (fun K hK => ?_)
    go_simp
    go_at_call 112
    refine (smax_mm _ _ _).mono ?_
    rintro e w' ⟨rfl, rfl⟩
    go_wp2_with fail
    refine hK.out _ _ ?_ (fun hHeld => ?_)
    · exact hHeld
    clear hK K
    try simp only [Act.put, List.setIfInBounds_toArray, List.set_cons_zero, List.set_cons_succ]
    refine lin_call rfl (by rfl) (fun K hK => ?_)
    go_simp
    go_at_call 138
    refine (smin_mm _ _ _).mono ?_
    rintro e w' ⟨rfl, rfl⟩
    go_wp2_with fail
    refine hK.out _ _ ?_ (fun hHeld => ?_)
    · exact hHeld
    clear hK K
    try simp only [Act.put, List.setIfInBounds_toArray, List.set_cons_zero, List.set_cons_succ]
    iterate 15 (refine lin_on (v := ?_) rfl (fun _ _ _ h => h) (by rfl) ?_ (by assumption) ?_; rotate_left; (· (intro wq hSw; go_simp; try with_reducible rfl)); try simp only [Act.put, List.setIfInBounds_toArray, List.set_cons_zero, List.set_cons_succ])
    refine lin_call rfl (by rfl) (fun K hK => ?_)
    go_simp
    go_at_call 112
    refine (smax_mm _ _ _).mono ?_
    rintro e w' ⟨rfl, rfl⟩
    go_wp2_with fail
    refine hK.out _ _ ?_ (fun hHeld => ?_)
    · exact hHeld
    clear hK K
    try simp only [Act.put, List.setIfInBounds_toArray, List.set_cons_zero, List.set_cons_succ]
    refine lin_call rfl (by rfl) (fun K hK => ?_)
    go_simp
    go_at_call 138
    refine (smin_mm _ _ _).mono ?_
    rintro e w' ⟨rfl, rfl⟩
    go_wp2_with fail
    refine hK.out _ _ ?_ (fun hHeld => ?_)
    · exact hHeld
    clear hK K
    try simp only [Act.put, List.setIfInBounds_toArray, List.set_cons_zero, List.set_cons_succ]
    iterate 2 (refine lin_on (v := ?_) rfl (fun _ _ _ h => h) (by rfl) ?_ (by assumption) ?_; rotate_left; (· (intro wq hSw; go_simp; try with_reducible rfl)); try simp only [Act.put, List.setIfInBounds_toArray, List.set_cons_zero, List.set_cons_succ])
    refine lin_done ?_
    go_wp2_with fail
    go_meet
    exact ⟨rfl, HB2⟩
  case rest =>
  obtain ⟨rfl, HB2⟩ := hcut
  clear k0 k1 k2 k3 k4 k5 k6 k7
  obtain ⟨k0, k1, k2, k3, k4, k5, k6, k7⟩ := HB2.out.c44
  clear h1 h2 h3 h4
  go_wp2_with fail
  refine (l5Shared_is a b c d p q r s 0 _ HN.out).mono ?_
  rintro e w3 ⟨rfl, hb3⟩
  have HB := Lib.hid (HB2.out.next hb3)
  clear hb3 HB2 HN k0 k1 k2 k3 k4 k5 k6 k7
  go_upto_region 7 with fail
  go_cut [117] (fun s117 wx => s117 = .bool false ∧ Hid (Vars w wx [SegC a b c d, SegC p q r s]))
  case first =>
    have hw1 := HW1.out
    have hw2 := HW2.out
    have hd1 := HD1.out
    have hd2 := HD2.out
    have HB := Lib.hid HB.out.drew
    refine wp_region_held_drew (S := (fun w' => w'.cell? ⟨w.heap.size, 0, none⟩ = some (.int .i64 a) ∧ w'.cell? ⟨w.heap.size, 1, none⟩ = some (.int .i64 b) ∧ w'.cell? ⟨w.heap.size, 2, none⟩ = some (.int .i64 c) ∧ w'.cell? ⟨w.heap.size, 3, none⟩ = some (.int .i64 d) ∧ w'.cell? ⟨w.heap.size + 1, 0, none⟩ = some (.int .i64 p) ∧ w'.cell? ⟨w.heap.size + 1, 1, none⟩ = some (.int .i64 q) ∧ w'.cell? ⟨w.heap.size + 1, 2, none⟩ = some (.int .i64 r) ∧ w'.cell? ⟨w.heap.size + 1, 3, none⟩ = some (.int .i64 s))) (by kernel_rfl) HB.out.c44 (fun hHeld => ?_)
    refine to_lin (T := hm7T) (n := 34) hm7S ⟨by kernel_rfl, by kernel_rfl, by kernel_rfl⟩ (by kernel_rfl) (fun hTag => ?_)
    iterate 12 (refine lin_on (v := ?_) rfl (fun _ _ _ h => h) (by rfl) ?_ (by assumption) ?_; rotate_left; (· (intro wq hSw; go_simp; try with_reducible rfl)); try simp only [Act.put, List.setIfInBounds_toArray, List.set_cons_zero, List.set_cons_succ])
    refine lin_call rfl (by rfl) (fun K hK => ?_)
    go_simp
    go_at_call 140
    refine (sSideOf_is _ _ _ _ _ _ _ _ H1.out).mono ?_
    rintro e w9 ⟨rfl, hb9⟩
    have HB := Lib.hid (HB.out.next hb9)
    clear hb9
    go_wp2_with fail
    refine hK.out _ _ ?_ (fun hHeld => ?_)
    · exact HB.out.c44
    clear hK K
    try simp only [Act.put, List.setIfInBounds_toArray, List.set_cons_zero, List.set_cons_succ]
    refine lin_call rfl (by rfl) (fun K hK => ?_)
    go_simp
    go_at_call 140
    refine (sSideOf_is _ _ _ _ _ _ _ _ H2.out).mono ?_
    rintro e w9 ⟨rfl, hb9⟩
    have HB := Lib.hid (HB.out.next hb9)
    clear hb9
    go_wp2_with fail
    refine hK.out _ _ ?_ (fun hHeld => ?_)
    · exact HB.out.c44
    clear hK K
    try simp only [Act.put, List.setIfInBounds_toArray, List.set_cons_zero, List.set_cons_succ]
    iterate 15 (refine lin_on (v := ?_) rfl (fun _ _ _ h => h) (by rfl) ?_ (by assumption) ?_; rotate_left; (· (intro wq hSw; go_simp; try with_reducible rfl)); try simp only [Act.put, List.setIfInBounds_toArray, List.set_cons_zero, List.set_cons_succ])
    refine lin_call rfl (by rfl) (fun K hK => ?_)
    go_simp
    go_at_call 140
    refine (sSideOf_is _ _ _ _ _ _ _ _ H3.out).mono ?_
    rintro e w9 ⟨rfl, hb9⟩
    have HB := Lib.hid (HB.out.next hb9)
    clear hb9
    go_wp2_with fail
    refine hK.out _ _ ?_ (fun hHeld => ?_)
    · exact HB.out.c44
    clear hK K
    try simp only [Act.put, List.setIfInBounds_toArray, List.set_cons_zero, List.set_cons_succ]
    refine lin_call rfl (by rfl) (fun K hK => ?_)
    go_simp
    go_at_call 140
    refine (sSideOf_is _ _ _ _ _ _ _ _ H4.out).mono ?_
    rintro e w9 ⟨rfl, hb9⟩
    have HB := Lib.hid (HB.out.next hb9)
    clear hb9
    go_wp2_with fail
    refine hK.out _ _ ?_ (fun hHeld => ?_)
    · exact HB.out.c44
    clear hK K
    try simp only [Act.put, List.setIfInBounds_toArray, List.set_cons_zero, List.set_cons_succ]
    iterate 3 (refine lin_on (v := ?_) rfl (fun _ _ _ h => h) (by rfl) ?_ (by assumption) ?_; rotate_left; (· (intro wq hSw; go_simp; try with_reducible rfl)); try simp only [Act.put, List.setIfInBounds_toArray, List.set_cons_zero, List.set_cons_succ])
    refine lin_done ?_
    go_wp2_with fail
    go_meet
    exact ⟨rfl, HB⟩
  case rest =>
  obtain ⟨rfl, HB⟩ := hcut
  go_wp2
  go_ret
  exact ⟨ret_int HE.out.symm, HB.out.1⟩

set_option maxRecDepth 100000 in
set_option maxHeartbeats 4000000 in
theorem sHowMeet_none1 (a b c d p q r s : Int) (w : World) (hs : isS a b c d = true) (ht : isS p q r s = true) (hx : ¬ Apart a b c d p q r s) (e0 : (shL a b c d p q r s).length = 0) (hm1 : ¬ sideV a b c d p q * sideV a b c d r s < 0) (e2 : howV a b c d p q r s = 0) :
    Calls Tryz.prog 113 #[SegV a b c d, SegV p q r s] w fun e w' => e = .returned (.int .i64 (howV a b c d p q r s)) ∧ Below w.heap.size w w' := by
  obtain ⟨z, hz⟩ : ∃ z, howV a b c d p q r s = z := ⟨_, rfl⟩
  rw [hz]
  have hx4 : ¬ max a c < min p r ∧ ¬ max p r < min a c ∧ ¬ max b d < min q s ∧ ¬ max q s < min b d := by
    unfold Apart at hx; omega
  obtain ⟨h1, h2, h3, h4⟩ := hx4
  have HE := Lib.hid (hz.symm.trans e2)
  have HN := Lib.hid e0
  clear hx hz e0 e2
  obtain ⟨s1, hs1⟩ : ∃ z, sideV a b c d p q = z := ⟨_, rfl⟩
  obtain ⟨s2, hs2⟩ : ∃ z, sideV a b c d r s = z := ⟨_, rfl⟩
  obtain ⟨s3, hs3⟩ : ∃ z, sideV p q r s a b = z := ⟨_, rfl⟩
  obtain ⟨s4, hs4⟩ : ∃ z, sideV p q r s c d = z := ⟨_, rfl⟩
  have hw1 : IntKind.i64.wrap (s1 * s2) = s1 * s2 := by rw [← hs1, ← hs2]; exact sides_mul (sides3 _ _ _ _ _ _) (sides3 _ _ _ _ _ _)
  have hw2 : IntKind.i64.wrap (s3 * s4) = s3 * s4 := by rw [← hs3, ← hs4]; exact sides_mul (sides3 _ _ _ _ _ _) (sides3 _ _ _ _ _ _)
  obtain ⟨m1, hM1⟩ : ∃ m, s1 * s2 = m := ⟨_, rfl⟩
  obtain ⟨m2, hM2⟩ : ∃ m, s3 * s4 = m := ⟨_, rfl⟩
  have hd1 : decide (m1 < 0) = false := by rw [← hM1, ← hs1, ← hs2]; exact decide_eq_false hm1
  have H1 := Lib.hid hs1
  have H2 := Lib.hid hs2
  have H3 := Lib.hid hs3
  have H4 := Lib.hid hs4
  have HW1 := Lib.hid (hw1.trans hM1)
  have HW2 := Lib.hid (hw2.trans hM2)
  clear hs1 hs2 hs3 hs4 hM1 hM2 hw1 hw2
  have HD1 := Lib.hid hd1
  clear hm1 hd1
  have HB := Lib.hid (Vars.of2 w (SegC a b c d) (SegC p q r s) 78 78)
  go_enter Tryz.func113, Tryz.ntmps113
  go_wp2_with fail
  refine (sIsSegment_is a b c d _ _ hs).mono ?_
  rintro e w1 ⟨rfl, hb1⟩
  have HB1 := Lib.hid (HB.out.next hb1)
  clear hb1 HB
  obtain ⟨k0, k1, k2, k3, k4, k5, k6, k7⟩ := HB1.out.c44
  go_wp2_with fail
  refine (sIsSegment_is p q r s _ _ ht).mono ?_
  rintro e w2 ⟨rfl, hb2⟩
  have HB2 := Lib.hid (HB1.out.next hb2)
  clear hb2 HB1 k0 k1 k2 k3 k4 k5 k6 k7 hs ht
  obtain ⟨k0, k1, k2, k3, k4, k5, k6, k7⟩ := HB2.out.c44
  go_upto_region 3 with fail
  go_cut [78] (fun s78 wx => s78 = .bool false ∧ Hid (Vars w wx [SegC a b c d, SegC p q r s]))
  case first =>
    have HB2 := Lib.hid HB2.out.drew
    refine wp_region_held_drew (S := (fun w' => w'.cell? ⟨w.heap.size, 0, none⟩ = some (.int .i64 a) ∧ w'.cell? ⟨w.heap.size, 1, none⟩ = some (.int .i64 b) ∧ w'.cell? ⟨w.heap.size, 2, none⟩ = some (.int .i64 c) ∧ w'.cell? ⟨w.heap.size, 3, none⟩ = some (.int .i64 d) ∧ w'.cell? ⟨w.heap.size + 1, 0, none⟩ = some (.int .i64 p) ∧ w'.cell? ⟨w.heap.size + 1, 1, none⟩ = some (.int .i64 q) ∧ w'.cell? ⟨w.heap.size + 1, 2, none⟩ = some (.int .i64 r) ∧ w'.cell? ⟨w.heap.size + 1, 3, none⟩ = some (.int .i64 s))) (by kernel_rfl) HB2.out.c44 (fun hHeld => ?_)
    have d1 : decide (max a c < min p r) = false := decide_eq_false (by omega)
    have d2 : decide (max p r < min a c) = false := decide_eq_false (by omega)
    have d3 : decide (max b d < min q s) = false := decide_eq_false (by omega)
    have d4 : decide (max q s < min b d) = false := decide_eq_false (by omega)
    refine to_lin (T := hm3T) (n := 66) hm3S ⟨by kernel_rfl, by kernel_rfl, by kernel_rfl⟩ (by kernel_rfl) (fun hTag => ?_)
    iterate 12 (refine lin_on (v := ?_) rfl (fun _ _ _ h => h) (by rfl) ?_ (by assumption) ?_; rotate_left; (· (intro wq hSw; go_simp; try with_reducible rfl)); try simp only [Act.put, List.setIfInBounds_toArray, List.set_cons_zero, List.set_cons_succ])
    refine lin_call rfl (by rfl) (fun K hK => ?_)
    go_simp
    go_at_call 112
    refine (smax_mm _ _ _).mono ?_
    rintro e w' ⟨rfl, rfl⟩
    go_wp2_with fail
    refine hK.out _ _ ?_ (fun hHeld => ?_)
    · exact hHeld
    clear hK K
    try simp only [Act.put, List.setIfInBounds_toArray, List.set_cons_zero, List.set_cons_succ]
    refine lin_call rfl (by rfl) (fun K hK => ?_)
    go_simp
    go_at_call 138
    refine (smin_mm _ _ _).mono ?_
    rintro e w' ⟨rfl, rfl⟩
    go_wp2_with fail
    refine hK.out _ _ ?_ (fun hHeld => ?_)
    · exact hHeld
    clear hK K
    try simp only [Act.put, List.setIfInBounds_toArray, List.set_cons_zero, List.set_cons_succ]
    iterate 14 (refine lin_on (v := ?_) rfl (fun _ _ _ h => h) (by rfl) ?_ (by assumption) ?_; rotate_left; (· (intro wq hSw; go_simp; try with_reducible rfl)); try simp only [Act.put, List.setIfInBounds_toArray, List.set_cons_zero, List.set_cons_succ])
    refine lin_call rfl (by rfl) (fun K hK => ?_)
    go_simp
    go_at_call 112
    refine (smax_mm _ _ _).mono ?_
    rintro e w' ⟨rfl, rfl⟩
    go_wp2_with fail
    refine hK.out _ _ ?_ (fun hHeld => ?_)
    · exact hHeld
    clear hK K
    try simp only [Act.put, List.setIfInBounds_toArray, List.set_cons_zero, List.set_cons_succ]
    refine lin_call rfl (by rfl) (fun K hK => ?_)
    go_simp
    go_at_call 138
    refine (smin_mm _ _ _).mono ?_
    rintro e w' ⟨rfl, rfl⟩
    go_wp2_with fail
    refine hK.out _ _ ?_ (fun hHeld => ?_)
    · exact hHeld
    clear hK K
    try simp only [Act.put, List.setIfInBounds_toArray, List.set_cons_zero, List.set_cons_succ]
    iterate 15 (refine lin_on (v := ?_) rfl (fun _ _ _ h => h) (by rfl) ?_ (by assumption) ?_; rotate_left; (· (intro wq hSw; go_simp; try with_reducible rfl)); try simp only [Act.put, List.setIfInBounds_toArray, List.set_cons_zero, List.set_cons_succ])
    refine lin_call rfl (by rfl) (fun K hK => ?_)
    go_simp
    go_at_call 112
    refine (smax_mm _ _ _).mono ?_
    rintro e w' ⟨rfl, rfl⟩
    go_wp2_with fail
    refine hK.out _ _ ?_ (fun hHeld => ?_)
    · exact hHeld
    clear hK K
    try simp only [Act.put, List.setIfInBounds_toArray, List.set_cons_zero, List.set_cons_succ]
    refine lin_call rfl (by rfl) (fun K hK => ?_)
    go_simp
    go_at_call 138
    refine (smin_mm _ _ _).mono ?_
    rintro e w' ⟨rfl, rfl⟩
    go_wp2_with fail
    refine hK.out _ _ ?_ (fun hHeld => ?_)
    · exact hHeld
    clear hK K
    try simp only [Act.put, List.setIfInBounds_toArray, List.set_cons_zero, List.set_cons_succ]
    iterate 15 (refine lin_on (v := ?_) rfl (fun _ _ _ h => h) (by rfl) ?_ (by assumption) ?_; rotate_left; (· (intro wq hSw; go_simp; try with_reducible rfl)); try simp only [Act.put, List.setIfInBounds_toArray, List.set_cons_zero, List.set_cons_succ])
    refine lin_call rfl (by rfl) (fun K hK => ?_)
    go_simp
    go_at_call 112
    refine (smax_mm _ _ _).mono ?_
    rintro e w' ⟨rfl, rfl⟩
    go_wp2_with fail
    refine hK.out _ _ ?_ (fun hHeld => ?_)
    · exact hHeld
    clear hK K
    try simp only [Act.put, List.setIfInBounds_toArray, List.set_cons_zero, List.set_cons_succ]
    refine lin_call rfl (by rfl) (fun K hK => ?_)
    go_simp
    go_at_call 138
    refine (smin_mm _ _ _).mono ?_
    rintro e w' ⟨rfl, rfl⟩
    go_wp2_with fail
    refine hK.out _ _ ?_ (fun hHeld => ?_)
    · exact hHeld
    clear hK K
    try simp only [Act.put, List.setIfInBounds_toArray, List.set_cons_zero, List.set_cons_succ]
    iterate 2 (refine lin_on (v := ?_) rfl (fun _ _ _ h => h) (by rfl) ?_ (by assumption) ?_; rotate_left; (· (intro wq hSw; go_simp; try with_reducible rfl)); try simp only [Act.put, List.setIfInBounds_toArray, List.set_cons_zero, List.set_cons_succ])
    refine lin_done ?_
    go_wp2_with fail
    go_meet
    exact ⟨rfl, HB2⟩
  case rest =>
  obtain ⟨rfl, HB2⟩ := hcut
  clear k0 k1 k2 k3 k4 k5 k6 k7
  obtain ⟨k0, k1, k2, k3, k4, k5, k6, k7⟩ := HB2.out.c44
  clear h1 h2 h3 h4
  go_wp2_with fail
  refine (l5Shared_is a b c d p q r s 0 _ HN.out).mono ?_
  rintro e w3 ⟨rfl, hb3⟩
  have HB := Lib.hid (HB2.out.next hb3)
  clear hb3 HB2 HN k0 k1 k2 k3 k4 k5 k6 k7
  go_upto_region 7 with fail
  go_cut [117] (fun s117 wx => s117 = .bool false ∧ Hid (Vars w wx [SegC a b c d, SegC p q r s]))
  case first =>
    have hw1 := HW1.out
    have hw2 := HW2.out
    have hd1 := HD1.out
    have HB := Lib.hid HB.out.drew
    refine wp_region_held_drew (S := (fun w' => w'.cell? ⟨w.heap.size, 0, none⟩ = some (.int .i64 a) ∧ w'.cell? ⟨w.heap.size, 1, none⟩ = some (.int .i64 b) ∧ w'.cell? ⟨w.heap.size, 2, none⟩ = some (.int .i64 c) ∧ w'.cell? ⟨w.heap.size, 3, none⟩ = some (.int .i64 d) ∧ w'.cell? ⟨w.heap.size + 1, 0, none⟩ = some (.int .i64 p) ∧ w'.cell? ⟨w.heap.size + 1, 1, none⟩ = some (.int .i64 q) ∧ w'.cell? ⟨w.heap.size + 1, 2, none⟩ = some (.int .i64 r) ∧ w'.cell? ⟨w.heap.size + 1, 3, none⟩ = some (.int .i64 s))) (by kernel_rfl) HB.out.c44 (fun hHeld => ?_)
    refine to_lin (T := hm7T) (n := 34) hm7S ⟨by kernel_rfl, by kernel_rfl, by kernel_rfl⟩ (by kernel_rfl) (fun hTag => ?_)
    iterate 12 (refine lin_on (v := ?_) rfl (fun _ _ _ h => h) (by rfl) ?_ (by assumption) ?_; rotate_left; (· (intro wq hSw; go_simp; try with_reducible rfl)); try simp only [Act.put, List.setIfInBounds_toArray, List.set_cons_zero, List.set_cons_succ])
    refine lin_call rfl (by rfl) (fun K hK => ?_)
    go_simp
    go_at_call 140
    refine (sSideOf_is _ _ _ _ _ _ _ _ H1.out).mono ?_
    rintro e w9 ⟨rfl, hb9⟩
    have HB := Lib.hid (HB.out.next hb9)
    clear hb9
    go_wp2_with fail
    refine hK.out _ _ ?_ (fun hHeld => ?_)
    · exact HB.out.c44
    clear hK K
    try simp only [Act.put, List.setIfInBounds_toArray, List.set_cons_zero, List.set_cons_succ]
    refine lin_call rfl (by rfl) (fun K hK => ?_)
    go_simp
    go_at_call 140
    refine (sSideOf_is _ _ _ _ _ _ _ _ H2.out).mono ?_
    rintro e w9 ⟨rfl, hb9⟩
    have HB := Lib.hid (HB.out.next hb9)
    clear hb9
    go_wp2_with fail
    refine hK.out _ _ ?_ (fun hHeld => ?_)
    · exact HB.out.c44
    clear hK K
    try simp only [Act.put, List.setIfInBounds_toArray, List.set_cons_zero, List.set_cons_succ]
    iterate 3 (refine lin_on (v := ?_) rfl (fun _ _ _ h => h) (by rfl) ?_ (by assumption) ?_; rotate_left; (· (intro wq hSw; go_simp; try with_reducible rfl)); try simp only [Act.put, List.setIfInBounds_toArray, List.set_cons_zero, List.set_cons_succ])
    iterate 12 (refine lin_off rfl (fun _ _ _ h => h) (by rfl) (by assumption) ?_; try simp only [Act.put, List.setIfInBounds_toArray, List.set_cons_zero, List.set_cons_succ])
    (refine lin_skip rfl (by rfl) (by assumption) ?_; try simp only [Act.put, List.setIfInBounds_toArray, List.set_cons_zero, List.set_cons_succ])
    (refine lin_skip rfl (by rfl) (by assumption) ?_; try simp only [Act.put, List.setIfInBounds_toArray, List.set_cons_zero, List.set_cons_succ])
    iterate 2 (refine lin_off rfl (fun _ _ _ h => h) (by rfl) (by assumption) ?_; try simp only [Act.put, List.setIfInBounds_toArray, List.set_cons_zero, List.set_cons_succ])
    (refine lin_on (v := ?_) rfl (fun _ _ _ h => h) (by rfl) ?_ (by assumption) ?_; rotate_left; (· (intro wq hSw; go_simp; try with_reducible rfl)); try simp only [Act.put, List.setIfInBounds_toArray, List.set_cons_zero, List.set_cons_succ])
    refine lin_done ?_
    go_wp2_with fail
    go_meet
    exact ⟨rfl, HB⟩
  case rest =>
  obtain ⟨rfl, HB⟩ := hcut
  go_wp2
  go_ret
  exact ⟨ret_int HE.out.symm, HB.out.1⟩

theorem sHowMeet_yes (a b c d p q r s : Int) (w : World) (hs : isS a b c d = true) (ht : isS p q r s = true) :
    Calls Tryz.prog 113 #[SegV a b c d, SegV p q r s] w fun e w' => e = .returned (.int .i64 (howV a b c d p q r s)) ∧ Below w.heap.size w w' := by
  by_cases hx : Apart a b c d p q r s
  · have hx4 : max a c < min p r ∨ (¬ max a c < min p r ∧ max p r < min a c) ∨ (¬ max a c < min p r ∧ ¬ max p r < min a c ∧ max b d < min q s) ∨ (¬ max a c < min p r ∧ ¬ max p r < min a c ∧ ¬ max b d < min q s ∧ max q s < min b d) := by
      unfold Apart at hx; omega
    rcases hx4 with h1 | ⟨h1, h2⟩ | ⟨h1, h2, h3⟩ | ⟨h1, h2, h3, h4⟩
    · exact sHowMeet_apart1 a b c d p q r s w hs ht hx h1
    · exact sHowMeet_apart2 a b c d p q r s w hs ht hx h1 h2
    · exact sHowMeet_apart3 a b c d p q r s w hs ht hx h1 h2 h3
    · exact sHowMeet_apart4 a b c d p q r s w hs ht hx h1 h2 h3 h4
  · rcases how_count hs ht hx with ⟨e0, e1, e2⟩ | ⟨e0, e1, e2⟩ | ⟨e0, e2⟩ | ⟨e0, e2⟩
    · exact sHowMeet_cross a b c d p q r s w hs ht hx e0 e1.1 e1.2 e2
    · by_cases hm : sideV a b c d p q * sideV a b c d r s < 0
      · exact sHowMeet_none2 a b c d p q r s w hs ht hx e0 hm (fun h => e1 ⟨hm, h⟩) e2
      · exact sHowMeet_none1 a b c d p q r s w hs ht hx e0 hm e2
    · exact sHowMeet_one a b c d p q r s w hs ht hx e0 e2
    · exact sHowMeet_many a b c d p q r s w hs ht hx e0 e2
theorem sHowMeet_any (a b c d p q r s : Int) (w : World) :
    Calls Tryz.prog 113 #[SegV a b c d, SegV p q r s] w fun e w' => e = .returned (.int .i64 (howV a b c d p q r s)) ∧ Below w.heap.size w w' := by
  by_cases h : isS a b c d = true ∧ isS p q r s = true
  · exact sHowMeet_yes a b c d p q r s w h.1 h.2
  · exact sHowMeet_no a b c d p q r s w h
end Go.Proofs.YtbnjaaegbmhopaaGreatDoor
