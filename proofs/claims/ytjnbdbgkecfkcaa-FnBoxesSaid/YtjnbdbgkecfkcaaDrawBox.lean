/- The model's draws of boxes. -/
import Derived.Test.YtjnbdbgkecfkcaaDrawLine2
import Derived.Test.YtjnbdbgkecfkcaaBox
namespace Go.Proofs.Ytjnbdbgkecfkcaa
open Go.ChangeShapes Go.WideShapes Go.ChangeAt Go.RowKit
set_option linter.unusedVariables false

/-- A box's value was drawn; nothing but the cursor has been written. -/
def DBox (p : Nat) (w : World) (e : Ending) (w' : World) : Prop :=
  (∃ a b c d : Int, e = .returned (SegV a b c d)) ∧ Cur w' p ∧ w.grownBy w' (some p)
set_option maxRecDepth 100000 in
set_option maxHeartbeats 2000000 in
theorem l8Draw_any (p : Nat) (w : World) (hc : Cur w p) :
    Calls Try.prog 116 #[.pointer (some ⟨p, 0, none⟩)] w (DBox p w) := by
  have HP := Lib.hid ((Pad.start hc).moreAt w.heap.size rfl 48 (SegC 0 0 0 0))
  clear hc
  go_enter Try.func116, Try.ntmps116
  go_wp2_with fail
  refine (l4Draw_any p _ HP.out.2.1).mono ?_
  rintro e w1 ⟨⟨x, y, hx0, hx1, hy0, hy1, rfl⟩, hc1, hg1⟩
  have HP1 := Lib.hid ((HP.out.next hc1 hg1).moreAt w1.heap.size rfl 25 (PtC x y))
  clear hc1 hg1 HP
  have HPd := Lib.hid HP1.out.drew
  obtain ⟨k0, k1⟩ := HP1.out.c2 1 rfl
  have HK := Lib.hid (HPd.out.c2 1 rfl)
  have n1 := HP1.out.ne 1 0 rfl rfl (by decide)
  have n2 := HP1.out.ne 0 1 rfl rfl (by decide)
  go_wp2_with fail
  go_region_held3 (fun w' => w'.cell? ⟨w1.heap.size, 0, none⟩ = some (.int .i64 x) ∧ w'.cell? ⟨w1.heap.size, 1, none⟩ = some (.int .i64 y)) (first | with_reducible exact ⟨k0, k1⟩ | with_reducible exact HK.out | with_reducible exact HK7.out | with_reducible exact HK8.out | (refine ⟨?_, ?_⟩ <;> simp [go_sem, q0, q1])) (first
    | (go_at_call 105; refine (below_any p 6 _ (by decide) (by decide) HP7.out.2.1).mono ?_; rintro e w9 ⟨⟨m9, hm0, hm1, rfl⟩, hc9, hg9⟩; have HP8 := Lib.hid (HP7.out.next hc9 hg9); have HK8 := Lib.hid (HP8.out.c2 1 rfl); obtain ⟨b0, b1, b2, b3⟩ := HP8.out.c4 0 rfl; obtain ⟨g0, g1, g2, g3⟩ := HP8.out.f4 0 rfl; obtain ⟨q0, q1⟩ := HK8.out)
    | (go_at_call 105; refine (below_any p 6 _ (by decide) (by decide) HPd.out.2.1).mono ?_; rintro e w8 ⟨⟨n9, hn0, hn1, rfl⟩, hc9, hg9⟩; have HP7 := Lib.hid (HPd.out.next hc9 hg9); have HK7 := Lib.hid (HP7.out.c2 1 rfl)) | fail)
  all_goals
    go_wp2
    refine bodyPost_ret (v := SegV x y (IntKind.i64.wrap (x + n9)) (IntKind.i64.wrap (y + m9))) (by simp [results, Try.results116, go_sem, b0, b1, b2, b3]) rfl ?_
    have h := HP8.out.set4 0 rfl (.int .i64 x) (.int .i64 y) (.int .i64 (IntKind.i64.wrap (x + n9))) (.int .i64 (IntKind.i64.wrap (y + m9)))
    exact ⟨⟨_, _, _, _, rfl⟩, h.2.1, h.2.2.1⟩
set_option maxRecDepth 100000 in
set_option maxHeartbeats 2000000 in
theorem l8Any_any (p : Nat) (w : World) (hc : Cur w p) :
    Calls Try.prog 95 #[.pointer (some ⟨p, 0, none⟩)] w (DBox p w) := by
  have HP := Lib.hid ((Pad.start hc).moreAt w.heap.size rfl 48 (SegC 0 0 0 0))
  clear hc
  go_enter Try.func95, Try.ntmps95
  go_wp2_with fail
  refine (l8Draw_any p _ HP.out.2.1).mono ?_
  rintro e w1 ⟨⟨a, b, c, d, rfl⟩, hc1, hg1⟩
  have HP1 := Lib.hid ((HP.out.next hc1 hg1).moreAt w1.heap.size rfl 48 (SegC a b c d))
  clear hc1 hg1 HP
  go_wp2_with fail
  refine (below_any p 10 _ (by decide) (by decide) HP1.out.2.1).mono ?_
  rintro e w2 ⟨⟨n, hn0, hn1, rfl⟩, hc2, hg2⟩
  have HP2 := Lib.hid (HP1.out.next hc2 hg2)
  clear hc2 hg2 HP1
  have n1 := HP2.out.ne 1 0 rfl rfl (by decide)
  have n2 := HP2.out.ne 0 1 rfl rfl (by decide)
  rcases (by omega : n = 0 ∨ n = 1 ∨ 2 ≤ n) with rfl | rfl | hn
  · go_wp2_with fail
    refine (l4Any_any p _ HP2.out.2.1).mono ?_
    rintro e w3 ⟨⟨x, y, -, -, -, -, rfl⟩, hc3, hg3⟩
    have HP3 := Lib.hid (HP2.out.next hc3 hg3)
    clear hc3 hg3 HP2
    obtain ⟨k0, k1, k2, k3⟩ := HP3.out.c4 1 rfl
    obtain ⟨f0, f1, f2, f3⟩ := HP3.out.f4 1 rfl
    obtain ⟨b0, b1, b2, b3⟩ := HP3.out.c4 0 rfl
    obtain ⟨g0, g1, g2, g3⟩ := HP3.out.f4 0 rfl
    go_wp2
    refine bodyPost_ret (v := SegV x y c d) (by simp [results, Try.results95, go_sem, b0, b1, b2, b3]) rfl ?_
    have h := (HP3.out.set2 1 0 rfl (.int .i64 x) (.int .i64 y)).set4 0 rfl (.int .i64 x) (.int .i64 y) (.int .i64 c) (.int .i64 d)
    exact ⟨⟨_, _, _, _, rfl⟩, h.2.1, h.2.2.1⟩
  · go_wp2_with fail
    refine (l4Any_any p _ HP2.out.2.1).mono ?_
    rintro e w3 ⟨⟨x, y, -, -, -, -, rfl⟩, hc3, hg3⟩
    have HP3 := Lib.hid (HP2.out.next hc3 hg3)
    clear hc3 hg3 HP2
    obtain ⟨k0, k1, k2, k3⟩ := HP3.out.c4 1 rfl
    obtain ⟨f0, f1, f2, f3⟩ := HP3.out.f4 1 rfl
    obtain ⟨b0, b1, b2, b3⟩ := HP3.out.c4 0 rfl
    obtain ⟨g0, g1, g2, g3⟩ := HP3.out.f4 0 rfl
    go_wp2
    refine bodyPost_ret (v := SegV a b x y) (by simp [results, Try.results95, go_sem, b0, b1, b2, b3]) rfl ?_
    have h := (HP3.out.set2 1 2 rfl (.int .i64 x) (.int .i64 y)).set4 0 rfl (.int .i64 a) (.int .i64 b) (.int .i64 x) (.int .i64 y)
    exact ⟨⟨_, _, _, _, rfl⟩, h.2.1, h.2.2.1⟩
  · have m0 : ¬ n = 0 := by omega
    have m1 : ¬ n = 1 := by omega
    obtain ⟨k0, k1, k2, k3⟩ := HP2.out.c4 1 rfl
    obtain ⟨b0, b1, b2, b3⟩ := HP2.out.c4 0 rfl
    obtain ⟨g0, g1, g2, g3⟩ := HP2.out.f4 0 rfl
    go_wp2
    refine bodyPost_ret (v := SegV a b c d) (by simp [results, Try.results95, go_sem, b0, b1, b2, b3]) rfl ?_
    have h := HP2.out.set4 0 rfl (.int .i64 a) (.int .i64 b) (.int .i64 c) (.int .i64 d)
    exact ⟨⟨_, _, _, _, rfl⟩, h.2.1, h.2.2.1⟩
/-- Two boxes, or a box and a number. -/
def GotBoxes (w : World) (e : Ending) (w' : World) : Prop :=
  ∃ a b c d p q r s : Int, e = .returned (.tuple #[SegV a b c d, SegV p q r s]) ∧ Below w.heap.size w w'
def GotBoxN (w : World) (e : Ending) (w' : World) : Prop :=
  ∃ a b c d n : Int, e = .returned (.tuple #[SegV a b c d, .int .i64 n]) ∧ Below w.heap.size w w'
set_option maxHeartbeats 2000000 in
theorem drawBoxesMeet_any (A : Option Addr) (len cap B : Nat) (w : World) (hc : Code w B A len) :
    Calls Try.prog 39 #[.slice A len cap] w (GotBoxes w) := by
  have HC := Lib.hid (code_below hc (((Below.refl B w).alloc hc.2.1 (.cells (SegC 0 0 0 0) 48)).alloc (by simp; have := hc.2.1; omega) (.cells (SegC 0 0 0 0) 48)))
  have HB := Lib.hid (Vars.of2 w (SegC 0 0 0 0) (SegC 0 0 0 0) 48 48)
  clear hc
  go_enter Try.func39, Try.ntmps39
  go_wp2_with fail
  refine (new_any A len cap B _ HC.out).mono ?_
  rintro e w1 ⟨p, hp, rfl, hc1, hb1⟩
  have HB1 := Lib.hid (HB.out.next hb1)
  have hp' : w.heap.size + 2 ≤ p := by have := HB.out.2.1; exact Nat.le_trans this hp
  clear HB hb1 hp HC
  go_wp2_with fail
  refine (l8Any_any p _ hc1).mono ?_
  rintro e w2 ⟨⟨a, b, c, d, rfl⟩, hc2, hg2⟩
  have HB2 := Lib.hid (((HB1.out.nextG hg2 (by simpa using hp')).al (.cells (SegC a b c d) 48)).drew)
  have HQ2 := Lib.hid (((Pad.start hc1).next hc2 hg2).moreAt w2.heap.size rfl 48 (SegC a b c d))
  have l2 := (HB1.out.nextG hg2 (by simpa using hp')).more2
  have HQd := Lib.hid HQ2.out.drew
  have HK := Lib.hid (HQd.out.c4 0 rfl)
  obtain ⟨k0, k1, k2, k3⟩ := HQ2.out.c4 0 rfl
  have n1 : ¬ w.heap.size = w2.heap.size := by omega
  have n2 : ¬ w.heap.size + 1 = w2.heap.size := by omega
  have n3 : ¬ w2.heap.size = w.heap.size := by omega
  have n4 : ¬ w2.heap.size = w.heap.size + 1 := by omega
  clear hc2 hg2 HB1 hc1
  go_wp2_with fail
  go_region_held3 (fun w' => w'.cell? ⟨w2.heap.size, 0, none⟩ = some (.int .i64 a) ∧ w'.cell? ⟨w2.heap.size, 1, none⟩ = some (.int .i64 b) ∧ w'.cell? ⟨w2.heap.size, 2, none⟩ = some (.int .i64 c) ∧ w'.cell? ⟨w2.heap.size, 3, none⟩ = some (.int .i64 d)) (first | with_reducible exact ⟨k0, k1, k2, k3⟩ | with_reducible exact HK.out | with_reducible exact HK9.out | (refine ⟨?_, ?_, ?_, ?_⟩ <;> simp [go_sem, q0, q1, q2, q3])) (first
    | (go_at_call 95; refine (l8Any_any p _ HQd.out.2.1).mono ?_; rintro e w9 ⟨⟨p0, p1, p2, p3, rfl⟩, hc9, hg9⟩; have HB9 := Lib.hid (HB2.out.nextG hg9 (by simpa using hp')); have HQ9 := Lib.hid (HQd.out.next hc9 hg9); have HK9 := Lib.hid (HQ9.out.c4 0 rfl); obtain ⟨q0, q1, q2, q3⟩ := HK9.out; obtain ⟨j0, j1, j2, j3, j4, j5, j6, j7⟩ := HB9.out.c44; obtain ⟨g0, g1, g2, g3⟩ : _ ∧ _ ∧ _ ∧ _ := ⟨HB9.out.frz0 0, HB9.out.frz0 1, HB9.out.frz0 2, HB9.out.frz0 3⟩; obtain ⟨g4, g5, g6, g7⟩ := HB9.out.fr81) | fail)
  all_goals
    go_wp2
    refine bodyPost_ret (v := .tuple #[SegV a b c d, SegV p0 p1 p2 p3]) (by simp [results, Try.results39, go_sem, j0, j1, j2, j3, j4, j5, j6, j7]) rfl ?_
    have hbl : Below w.heap.size w w9 := HB9.out.1
    exact ⟨a, b, c, d, p0, p1, p2, p3, rfl, by repeat' (first | with_reducible exact hbl | with_reducible exact Nat.le_refl _ | with_reducible exact Nat.le_succ _ | with_reducible refine Below.setCell ?_ ?_ _ | with_reducible refine Below.drew ?_)⟩
set_option maxRecDepth 100000 in
set_option maxHeartbeats 2000000 in
theorem drawGrowBox_any (A : Option Addr) (len cap B : Nat) (w : World) (hc : Code w B A len) :
    Calls Try.prog 44 #[.slice A len cap] w (GotBoxN w) := by
  have HC := Lib.hid (code_below hc ((Below.refl B w).alloc hc.2.1 (.cells (SegC 0 0 0 0) 48)))
  have HB := Lib.hid (Vars.of1 w (SegC 0 0 0 0) 48)
  clear hc
  go_enter Try.func44, Try.ntmps44
  go_wp2_with fail
  refine (new_any A len cap B _ HC.out).mono ?_
  rintro e w1 ⟨p, hp, rfl, hc1, hb1⟩
  have HB1 := Lib.hid (HB.out.next hb1)
  have hp' : w.heap.size + 1 ≤ p := by have := HB.out.2.1; exact Nat.le_trans this hp
  clear HB hb1 hp HC
  go_wp2_with fail
  refine (l8Any_any p _ hc1).mono ?_
  rintro e w2 ⟨⟨a, b, c, d, rfl⟩, hc2, hg2⟩
  have HB2 := Lib.hid (((HB1.out.nextG hg2 (by simpa using hp')).al (.cells (SegC a b c d) 48)).drew)
  have HQ2 := Lib.hid (((Pad.start hc1).next hc2 hg2).moreAt w2.heap.size rfl 48 (SegC a b c d))
  have l2 := (HB1.out.nextG hg2 (by simpa using hp')).more1
  have hz : (w2.alloc (.cells (SegC a b c d) 48)).heap.size = w2.heap.size + 1 := by simp
  clear hc2 hg2 HB1 hc1
  go_wp2_with fail
  generalize w2.alloc (.cells (SegC a b c d) 48) = w3 at HB2 HQ2 hz ⊢
  have HQd := Lib.hid HQ2.out.drew
  have HK := Lib.hid (HQd.out.c4 0 rfl)
  obtain ⟨k0, k1, k2, k3⟩ := HQ2.out.c4 0 rfl
  have HQe := Lib.hid ((HQ2.out.al (.cells #[.int .i64 0, .int .i64 1, .int .i64 5, .int .i64 200, .int .i64 201, .int .i64 (-1)] 3)).drew)
  have HKe := Lib.hid (HQe.out.c4 0 rfl)
  have hcall : Calls Try.prog 96 #[.pointer (some ⟨p, 0, none⟩), .slice (some ⟨w2.heap.size + 1, 0, none⟩) 6 6] (w3.alloc (.cells #[.int .i64 0, .int .i64 1, .int .i64 5, .int .i64 200, .int .i64 201, .int .i64 (-1)] 3)).drew (DInt p w3.drew (-2000) 2000) :=
    ints_made p 6 6 _ [0, 1, 5, 200, 201, -1] (-2000) 2000 w3.drew 3 #[.int .i64 0, .int .i64 1, .int .i64 5, .int .i64 200, .int .i64 201, .int .i64 (-1)] rfl (by decide) (by decide) hz.symm rfl (by decide) HQd.out.2.1
  have HCALL := Lib.hid hcall
  clear hcall
  have n1 : ¬ w.heap.size = w2.heap.size := by omega
  have n3 : ¬ w2.heap.size = w.heap.size := by omega
  go_region_held3 (fun w' => w'.cell? ⟨w2.heap.size, 0, none⟩ = some (.int .i64 a) ∧ w'.cell? ⟨w2.heap.size, 1, none⟩ = some (.int .i64 b) ∧ w'.cell? ⟨w2.heap.size, 2, none⟩ = some (.int .i64 c) ∧ w'.cell? ⟨w2.heap.size, 3, none⟩ = some (.int .i64 d)) (first | with_reducible exact ⟨k0, k1, k2, k3⟩ | with_reducible exact HK.out | with_reducible exact HKe.out | with_reducible exact HK9.out | (refine ⟨?_, ?_, ?_, ?_⟩ <;> simp [go_sem, q0, q1, q2, q3]) | fail) (first
    | (go_at_call 96; refine HCALL.out.mono ?_; rintro e w9 ⟨⟨n9, -, -, rfl⟩, hc9, hg9⟩; have HB9 := Lib.hid (HB2.out.nextG hg9 (by simpa using hp')); have HQ9 := Lib.hid (HQd.out.next hc9 hg9); have HK9 := Lib.hid (HQ9.out.c4 0 rfl); obtain ⟨q0, q1, q2, q3⟩ := HK9.out; obtain ⟨j0, j1, j2, j3⟩ := HB9.out.c40; obtain ⟨g0, g1, g2, g3⟩ : _ ∧ _ ∧ _ ∧ _ := ⟨HB9.out.frz0 0, HB9.out.frz0 1, HB9.out.frz0 2, HB9.out.frz0 3⟩) | fail)
  all_goals
    go_wp2
    refine bodyPost_ret (v := .tuple #[SegV a b c d, .int .i64 n9]) (by simp [results, Try.results44, go_sem, j0, j1, j2, j3]) rfl ?_
    have hbl : Below w.heap.size w w9 := HB9.out.1
    exact ⟨a, b, c, d, n9, rfl, by repeat' (first | with_reducible exact hbl | with_reducible exact Nat.le_refl _ | with_reducible exact Nat.le_succ _ | with_reducible refine Below.setCell ?_ ?_ _ | with_reducible refine Below.drew ?_)⟩
end Go.Proofs.Ytjnbdbgkecfkcaa
