/- The model's draws of segments. -/
import Derived.Test.YtbnjaaegbmhopaaPad
import Derived.Test.YtbnjaaegbmhopaaSegS
namespace Go.Proofs.Ytbnjaaegbmhopaa
open Go.ChangeShapes Go.WideShapes Go.ChangeAt Go.RowKit
set_option linter.unusedVariables false

/-- A segment was drawn. -/
def DSeg (p : Nat) (w : World) (e : Ending) (w' : World) : Prop :=
  (∃ a b c d : Int, (Is64 a ∧ Is64 b ∧ Is64 c ∧ Is64 d) ∧ e = .returned (SegV a b c d)) ∧ Cur w' p ∧ w.grownBy w' (some p)
theorem is64_of {x : Int} (h : 0 ≤ x) (h' : x ≤ 11) : Is64 x := ⟨by omega, by omega⟩
theorem l5Draw_any (p : Nat) (w : World) (hc : Cur w p) :
    Calls Try.prog 114 #[.pointer (some ⟨p, 0, none⟩)] w (DSeg p w) := by
  have HP := Lib.hid ((Pad.start hc).more 38 (SegC 0 0 0 0))
  clear hc
  go_enter Try.func114, Try.ntmps114
  go_wp2_with fail
  refine (l4Draw_any p _ HP.out.2.1).mono ?_
  rintro e w1 ⟨⟨x, y, hx0, hx1, hy0, hy1, rfl⟩, hc1, hg1⟩
  have HP1 := Lib.hid ((HP.out.next hc1 hg1).more 25 (PtC x y))
  clear hc1 hg1 HP
  go_upto_region 2 with fail
  go_cut [4] (fun s4 wx => Hid (∃ b4 n, s4 = .pointer (some ⟨b4, 0, none⟩) ∧ 0 ≤ n ∧ n ≤ 11 ∧ Pad p w wx [(w.heap.size, SegC 0 0 0 0), (w1.heap.size, PtC x y), (b4, PtC n y)]))
  case first =>
    have k := HP1.out.drew.c2 1 rfl
    go_region_held3 (fun w' => w'.cell? ⟨w1.heap.size, 0, none⟩ = some (.int .i64 x) ∧ w'.cell? ⟨w1.heap.size, 1, none⟩ = some (.int .i64 y)) (first | with_reducible exact k | with_reducible exact HP9.out.c2 1 rfl | with_reducible exact (HP9.out.al _).c2 1 rfl | with_reducible exact (HP1.out.al _).drew.c2 1 rfl | with_reducible exact (HP9.out.set2 2 0 rfl _ _).c2 1 rfl) (first
      | (go_at_call 103; refine (below_any p 12 _ (by decide) (by decide) (by first | exact HP1.out.drew.2.1 | exact (HP1.out.al _).drew.2.1)).mono ?_; rintro e w9 ⟨⟨n, hn0, hn1, rfl⟩, hc9, hg9⟩; (first | have HP9 := Lib.hid (HP1.out.drew.next hc9 hg9) | have HP9 := Lib.hid ((HP1.out.moreAt (w1.heap.size + 1) (by simp) _ _).drew.next hc9 hg9)); clear hc9 hg9; (first | (obtain ⟨q0, q1⟩ := HP9.out.c2 2 rfl; obtain ⟨f0, f1⟩ := HP9.out.f2 2 rfl) | skip)) | fail)
    all_goals
      go_wp2_with fail
      go_meet
      first
        | exact Lib.hid ⟨_, _, rfl, hn0, hn1, HP9.out.more _ _⟩
        | exact Lib.hid ⟨_, _, rfl, hn0, hn1, HP9.out.set2 2 0 rfl _ _⟩
  case rest =>
  obtain ⟨b4, n, rfl, hn0, hn1, hp2⟩ := hcut.out
  have HP2 := Lib.hid hp2
  clear hp2 hcut HP1
  go_wp2_with fail
  refine (once_any p 3 _ (by decide) (by decide) HP2.out.2.1).mono ?_
  rintro e w3 ⟨⟨k, rfl⟩, hc3, hg3⟩
  have HP3 := Lib.hid (HP2.out.next hc3 hg3)
  clear hc3 hg3 HP2
  cases k
  · go_wp2_with fail
    refine (below_any p 12 _ (by decide) (by decide) HP3.out.2.1).mono ?_
    rintro e w4 ⟨⟨m, hm0, hm1, rfl⟩, hc4, hg4⟩
    have HP4 := Lib.hid (HP3.out.next hc4 hg4)
    clear hc4 hg4 HP3
    have n1 := HP4.out.ne 1 2 rfl rfl (by decide)
    have n2 := HP4.out.ne 0 1 rfl rfl (by decide)
    have n3 := HP4.out.ne 0 2 rfl rfl (by decide)
    obtain ⟨k0, k1⟩ := HP4.out.c2 1 rfl
    obtain ⟨k2, k3⟩ := HP4.out.c2 2 rfl
    obtain ⟨f0, f1⟩ := HP4.out.f2 2 rfl
    obtain ⟨g0, g1, g2, g3⟩ := HP4.out.f4 0 rfl
    obtain ⟨j0, j1, j2, j3⟩ := HP4.out.c4 0 rfl
    go_wp2
    refine bodyPost_ret (v := SegV x y n m) (by simp [results, Try.results114, go_sem, j0, j1, j2, j3]) rfl ?_
    have h := (HP4.out.set 2 1 rfl (.int .i64 m)).set4 0 rfl (.int .i64 x) (.int .i64 y) (.int .i64 n) (.int .i64 m)
    exact ⟨⟨x, y, n, m, ⟨is64_of hx0 hx1, is64_of hy0 hy1, is64_of hn0 (by omega), is64_of hm0 (by omega)⟩, rfl⟩, h.out.1, h.out.2⟩
  · have n2 := HP3.out.ne 0 1 rfl rfl (by decide)
    have n3 := HP3.out.ne 0 2 rfl rfl (by decide)
    obtain ⟨k0, k1⟩ := HP3.out.c2 1 rfl
    obtain ⟨k2, k3⟩ := HP3.out.c2 2 rfl
    obtain ⟨g0, g1, g2, g3⟩ := HP3.out.f4 0 rfl
    obtain ⟨j0, j1, j2, j3⟩ := HP3.out.c4 0 rfl
    go_wp2
    refine bodyPost_ret (v := SegV x y n y) (by simp [results, Try.results114, go_sem, j0, j1, j2, j3]) rfl ?_
    have h := HP3.out.set4 0 rfl (.int .i64 x) (.int .i64 y) (.int .i64 n) (.int .i64 y)
    exact ⟨⟨x, y, n, y, ⟨is64_of hx0 hx1, is64_of hy0 hy1, is64_of hn0 (by omega), is64_of hy0 hy1⟩, rfl⟩, h.out.1, h.out.2⟩
theorem l5Any_any (p : Nat) (w : World) (hc : Cur w p) :
    Calls Try.prog 73 #[.pointer (some ⟨p, 0, none⟩)] w (DSeg p w) := by
  have HP := Lib.hid ((Pad.start hc).more 38 (SegC 0 0 0 0))
  clear hc
  go_enter Try.func73, Try.ntmps73
  go_wp2_with fail
  refine (l5Draw_any p _ HP.out.2.1).mono ?_
  rintro e w1 ⟨⟨a, b, c, d, h64, rfl⟩, hc1, hg1⟩
  have H64 := Lib.hid h64
  have HP1 := Lib.hid ((HP.out.next hc1 hg1).more 38 (SegC a b c d))
  clear hc1 hg1 HP h64
  go_wp2_with fail
  refine (once_any p 9 _ (by decide) (by decide) HP1.out.2.1).mono ?_
  rintro e w2 ⟨⟨k, rfl⟩, hc2, hg2⟩
  have HP2 := Lib.hid (HP1.out.next hc2 hg2)
  clear hc2 hg2 HP1
  cases k
  · have n1 := HP2.out.ne 0 1 rfl rfl (by decide)
    obtain ⟨k0, k1, k2, k3⟩ := HP2.out.c4 1 rfl
    obtain ⟨g0, g1, g2, g3⟩ := HP2.out.f4 0 rfl
    obtain ⟨j0, j1, j2, j3⟩ := HP2.out.c4 0 rfl
    go_wp2
    refine bodyPost_ret (v := SegV a b c d) (by simp [results, Try.results73, go_sem, j0, j1, j2, j3]) rfl ?_
    have h := HP2.out.set4 0 rfl (.int .i64 a) (.int .i64 b) (.int .i64 c) (.int .i64 d)
    exact ⟨⟨a, b, c, d, H64.out, rfl⟩, h.out.1, h.out.2⟩
  · go_wp2_with fail
    refine (l4Any_any p _ HP2.out.2.1).mono ?_
    rintro e w3 ⟨⟨x, y, hx0, hx1, hy0, hy1, rfl⟩, hc3, hg3⟩
    have HP3 := Lib.hid (HP2.out.next hc3 hg3)
    clear hc3 hg3 HP2
    have n1 := HP3.out.ne 0 1 rfl rfl (by decide)
    obtain ⟨k0, k1, k2, k3⟩ := HP3.out.c4 1 rfl
    obtain ⟨f0, f1, f2, f3⟩ := HP3.out.f4 1 rfl
    obtain ⟨g0, g1, g2, g3⟩ := HP3.out.f4 0 rfl
    obtain ⟨j0, j1, j2, j3⟩ := HP3.out.c4 0 rfl
    go_wp2
    refine bodyPost_ret (v := SegV x y c d) (by simp [results, Try.results73, go_sem, j0, j1, j2, j3]) rfl ?_
    have h := (HP3.out.set2 1 0 rfl (.int .i64 x) (.int .i64 y)).set4 0 rfl (.int .i64 x) (.int .i64 y) (.int .i64 c) (.int .i64 d)
    exact ⟨⟨x, y, c, d, ⟨⟨hx0, hx1⟩, ⟨hy0, hy1⟩, H64.out.2.2.1, H64.out.2.2.2⟩, rfl⟩, h.out.1, h.out.2⟩
theorem below_set2 {B : Nat} {w w' : World} (h : Below B w w') {b i j : Nat} (hb : B ≤ b) (u v : Value) : Below B w ((w'.setCell ⟨b, i, none⟩ u).setCell ⟨b, j, none⟩ v) := (h.setCell hb u).setCell hb v
theorem below_set4 {B : Nat} {w w' : World} (h : Below B w w') {b i j k l : Nat} (hb : B ≤ b) (u v x y : Value) :
    Below B w ((((w'.setCell ⟨b, i, none⟩ u).setCell ⟨b, j, none⟩ v).setCell ⟨b, k, none⟩ x).setCell ⟨b, l, none⟩ y) := (((h.setCell hb u).setCell hb v).setCell hb x).setCell hb y
/-- Whole draws. -/
def GotSeg2 (w : World) (e : Ending) (w' : World) : Prop :=
  (∃ a b c d p q r s : Int, e = .returned (.tuple #[SegV a b c d, SegV p q r s])) ∧ Below w.heap.size w w'
def GotSegPt (w : World) (e : Ending) (w' : World) : Prop :=
  (∃ a b c d x y : Int, e = .returned (.tuple #[SegV a b c d, PtV x y])) ∧ Below w.heap.size w w'
set_option maxHeartbeats 4000000 in
theorem drawHowMeet_any (A : Option Addr) (len cap B : Nat) (w : World) (hc : Code w B A len) :
    Calls Try.prog 23 #[.slice A len cap] w (GotSeg2 w) := by
  have HC := Lib.hid (code_below hc (((Below.refl B w).alloc hc.2.1 (.cells (SegC 0 0 0 0) 38)).alloc (by simp; have := hc.2.1; omega) (.cells (SegC 0 0 0 0) 38)))
  have HB := Lib.hid (Vars.of2 w (SegC 0 0 0 0) (SegC 0 0 0 0) 38 38)
  clear hc
  go_enter Try.func23, Try.ntmps23
  go_wp2_with fail
  refine (new_any A len cap B _ HC.out).mono ?_
  rintro e w1 ⟨p, hp, rfl, hc1, hb1⟩
  have HB1 := Lib.hid (HB.out.next hb1)
  have hp' : w.heap.size + 2 ≤ p := by have := HB.out.2.1; exact Nat.le_trans this hp
  clear HB hb1 hp HC
  go_wp2_with fail
  refine (l5Any_any p _ hc1).mono ?_
  rintro e w2 ⟨⟨a, b, c, d, h64, rfl⟩, hc2, hg2⟩
  have HB2 := Lib.hid ((HB1.out.nextG hg2 (by simpa using hp')).al (.cells (SegC a b c d) 38))
  have HQ2 := Lib.hid (((Pad.start hc1).next hc2 hg2).moreAt w2.heap.size rfl 38 (SegC a b c d))
  have l2 := (HB1.out.nextG hg2 (by simpa using hp')).more2
  clear hc2 hg2 HB1 h64 hc1
  go_wp2_with fail
  refine (l5Any_any p _ HQ2.out.2.1).mono ?_
  rintro e w3 ⟨⟨m, n, r, s, h64, rfl⟩, hc3, hg3⟩
  have HB3 := Lib.hid ((HB2.out.nextG hg3 (by simpa using hp')).al (.cells (SegC m n r s) 38))
  have HQ3 := Lib.hid ((HQ2.out.next hc3 hg3).moreAt w3.heap.size rfl 38 (SegC m n r s))
  have l3 := (HB2.out.nextG hg3 (by simpa using hp')).more2
  clear hc3 hg3 HB2 h64 HQ2
  go_wp2_with fail
  refine (once_any p 4 _ (by decide) (by decide) HQ3.out.2.1).mono ?_
  rintro e w4 ⟨⟨k, rfl⟩, hc4, hg4⟩
  have HB4 := Lib.hid (HB3.out.nextG hg4 (by simpa using hp'))
  have HQ4 := Lib.hid (HQ3.out.next hc4 hg4)
  clear hc4 hg4 HB3 HQ3
  have n0 := HQ4.out.ne 0 1 rfl rfl (by decide)
  have n1 : ¬ w.heap.size = w2.heap.size := by omega
  have n2 : ¬ w.heap.size + 1 = w2.heap.size := by omega
  have n3 : ¬ w.heap.size = w3.heap.size := by omega
  have n4 : ¬ w.heap.size + 1 = w3.heap.size := by omega
  obtain ⟨k0, k1, k2, k3⟩ := HQ4.out.c4 0 rfl
  obtain ⟨k4, k5, k6, k7⟩ := HQ4.out.c4 1 rfl
  obtain ⟨f4, f5, f6, f7⟩ := HQ4.out.f4 1 rfl
  obtain ⟨j0, j1, j2, j3, j4, j5, j6, j7⟩ := HB4.out.c44
  have g (j i : Nat) (hj : j < 2) : w4.frozen? ⟨w.heap.size + j, i, none⟩ = false := HB4.out.frozen _ j i rfl (by match j, hj with | 0, _ => rfl | 1, _ => rfl)
  obtain ⟨g0, g1, g2, g3⟩ : _ ∧ _ ∧ _ ∧ _ := ⟨g 0 0 (by omega), g 0 1 (by omega), g 0 2 (by omega), g 0 3 (by omega)⟩
  obtain ⟨g4, g5, g6, g7⟩ : _ ∧ _ ∧ _ ∧ _ := ⟨g 1 0 (by omega), g 1 1 (by omega), g 1 2 (by omega), g 1 3 (by omega)⟩
  simp only [Nat.add_zero] at g0 g1 g2 g3
  clear g
  cases k
  · go_wp2_with fail
    go_region_held3 (fun w' => w'.cell? ⟨w2.heap.size, 0, none⟩ = some (.int .i64 a) ∧ w'.cell? ⟨w2.heap.size, 1, none⟩ = some (.int .i64 b) ∧ w'.cell? ⟨w2.heap.size, 2, none⟩ = some (.int .i64 c) ∧ w'.cell? ⟨w2.heap.size, 3, none⟩ = some (.int .i64 d) ∧ w'.cell? ⟨w3.heap.size, 0, none⟩ = some (.int .i64 m) ∧ w'.cell? ⟨w3.heap.size, 1, none⟩ = some (.int .i64 n) ∧ w'.cell? ⟨w3.heap.size, 2, none⟩ = some (.int .i64 r) ∧ w'.cell? ⟨w3.heap.size, 3, none⟩ = some (.int .i64 s)) (first | with_reducible exact ⟨k0, k1, k2, k3, k4, k5, k6, k7⟩ | (refine ⟨?_, ?_, ?_, ?_, ?_, ?_, ?_, ?_⟩ <;> simp [go_sem, k0, k1, k2, k3, k4, k5, k6, k7])) (fail)
    all_goals
      go_wp2
      refine bodyPost_ret (v := .tuple #[SegV a b c d, SegV m n r s]) (by simp [results, Try.results23, go_sem, j0, j1, j2, j3, j4, j5, j6, j7]) rfl ?_
      refine ⟨⟨a, b, c, d, m, n, r, s, rfl⟩, ?_⟩
      have h := HB4.out.1
      with_reducible exact (below_set4 (below_set4 h (Nat.le_refl _) _ _ _ _) (Nat.le_succ _) _ _ _ _).drew
  · go_wp2_with fail
    go_region_held3 (fun w' => w'.cell? ⟨w2.heap.size, 0, none⟩ = some (.int .i64 a) ∧ w'.cell? ⟨w2.heap.size, 1, none⟩ = some (.int .i64 b) ∧ w'.cell? ⟨w2.heap.size, 2, none⟩ = some (.int .i64 c) ∧ w'.cell? ⟨w2.heap.size, 3, none⟩ = some (.int .i64 d) ∧ w'.cell? ⟨w3.heap.size, 0, none⟩ = some (.int .i64 c) ∧ w'.cell? ⟨w3.heap.size, 1, none⟩ = some (.int .i64 d) ∧ w'.cell? ⟨w3.heap.size, 2, none⟩ = some (.int .i64 r) ∧ w'.cell? ⟨w3.heap.size, 3, none⟩ = some (.int .i64 s)) ((refine ⟨?_, ?_, ?_, ?_, ?_, ?_, ?_, ?_⟩) <;> simp [go_sem, k0, k1, k2, k3, k4, k5, k6, k7]) (fail)
    all_goals
      go_wp2
      refine bodyPost_ret (v := .tuple #[SegV a b c d, SegV c d r s]) (by simp [results, Try.results23, go_sem, j0, j1, j2, j3, j4, j5, j6, j7]) rfl ?_
      refine ⟨⟨a, b, c, d, c, d, r, s, rfl⟩, ?_⟩
      have h := HB4.out.1
      with_reducible exact (below_set4 (below_set4 (below_set2 h (by omega) _ _) (Nat.le_refl _) _ _ _ _) (Nat.le_succ _) _ _ _ _).drew
set_option maxHeartbeats 4000000 in
theorem drawIsOn_any (A : Option Addr) (len cap B : Nat) (w : World) (hc : Code w B A len) :
    Calls Try.prog 30 #[.slice A len cap] w (GotSegPt w) := by
  have HC := Lib.hid (code_below hc (((Below.refl B w).alloc hc.2.1 (.cells (SegC 0 0 0 0) 38)).alloc (by simp; have := hc.2.1; omega) (.cells (PtC 0 0) 25)))
  have HB := Lib.hid (Vars.of2 w (SegC 0 0 0 0) (PtC 0 0) 38 25)
  clear hc
  go_enter Try.func30, Try.ntmps30
  go_wp2_with fail
  refine (new_any A len cap B _ HC.out).mono ?_
  rintro e w1 ⟨p, hp, rfl, hc1, hb1⟩
  have HB1 := Lib.hid (HB.out.next hb1)
  have hp' : w.heap.size + 2 ≤ p := by have := HB.out.2.1; exact Nat.le_trans this hp
  clear HB hb1 hp HC
  go_wp2_with fail
  refine (l5Any_any p _ hc1).mono ?_
  rintro e w2 ⟨⟨a, b, c, d, h64, rfl⟩, hc2, hg2⟩
  have HB2 := Lib.hid ((HB1.out.nextG hg2 (by simpa using hp')).al (.cells (SegC a b c d) 38))
  have HQ2 := Lib.hid (((Pad.start hc1).next hc2 hg2).moreAt w2.heap.size rfl 38 (SegC a b c d))
  have l2 := (HB1.out.nextG hg2 (by simpa using hp')).more2
  clear hc2 hg2 HB1 h64 hc1
  go_wp2_with fail
  refine (l4Any_any p _ HQ2.out.2.1).mono ?_
  rintro e w3 ⟨⟨x, y, hx0, hx1, hy0, hy1, rfl⟩, hc3, hg3⟩
  have HB3 := Lib.hid ((HB2.out.nextG hg3 (by simpa using hp')).al (.cells (PtC x y) 25))
  have HQ3 := Lib.hid ((HQ2.out.next hc3 hg3).moreAt w3.heap.size rfl 25 (PtC x y))
  have l3 := (HB2.out.nextG hg3 (by simpa using hp')).more2
  clear hc3 hg3 HB2 HQ2 hx0 hx1 hy0 hy1
  have n1 : ¬ w.heap.size = w2.heap.size := by omega
  have n2 : ¬ w.heap.size + 1 = w2.heap.size := by omega
  have n3 : ¬ w.heap.size = w3.heap.size := by omega
  have n4 : ¬ w.heap.size + 1 = w3.heap.size := by omega
  go_wp2_with fail
  refine (once_any p 3 _ (by decide) (by decide) HQ3.out.2.1).mono ?_
  rintro e w4 ⟨⟨k, rfl⟩, hc4, hg4⟩
  have HB4 := Lib.hid (HB3.out.nextG hg4 (by simpa using hp'))
  have HQ4 := Lib.hid (HQ3.out.next hc4 hg4)
  clear hc4 hg4 HB3 HQ3
  have n0 := HQ4.out.ne 0 1 rfl rfl (by decide)
  cases k
  · obtain ⟨k0, k1, k2, k3⟩ := HQ4.out.c4 0 rfl
    obtain ⟨k4, k5⟩ := HQ4.out.c2 1 rfl
    obtain ⟨j0, j1, j2, j3, j4, j5⟩ := HB4.out.c42p
    obtain ⟨g0, g1, g2, g3, g4, g5⟩ : _ ∧ _ ∧ _ ∧ _ ∧ _ ∧ _ := ⟨HB4.out.frz0 0, HB4.out.frz0 1, HB4.out.frz0 2, HB4.out.frz0 3, HB4.out.frozen (w.heap.size + 1) 1 0 rfl rfl, HB4.out.frozen (w.heap.size + 1) 1 1 rfl rfl⟩
    go_wp2_with fail
    go_region_held3 (fun w' => w'.cell? ⟨w2.heap.size, 0, none⟩ = some (.int .i64 a) ∧ w'.cell? ⟨w2.heap.size, 1, none⟩ = some (.int .i64 b) ∧ w'.cell? ⟨w2.heap.size, 2, none⟩ = some (.int .i64 c) ∧ w'.cell? ⟨w2.heap.size, 3, none⟩ = some (.int .i64 d) ∧ w'.cell? ⟨w3.heap.size, 0, none⟩ = some (.int .i64 x) ∧ w'.cell? ⟨w3.heap.size, 1, none⟩ = some (.int .i64 y)) (first | with_reducible exact ⟨k0, k1, k2, k3, k4, k5⟩ | (refine ⟨?_, ?_, ?_, ?_, ?_, ?_⟩ <;> simp [go_sem, k0, k1, k2, k3, k4, k5])) (fail)
    all_goals
      go_wp2
      refine bodyPost_ret (v := .tuple #[SegV a b c d, PtV x y]) (by simp [results, Try.results30, go_sem, j0, j1, j2, j3, j4, j5]) rfl ?_
      refine ⟨⟨a, b, c, d, x, y, rfl⟩, ?_⟩
      have h := HB4.out.1
      with_reducible exact (below_set2 (below_set4 h (Nat.le_refl _) _ _ _ _) (Nat.le_succ _) _ _).drew
  · obtain ⟨k0, k1, k2, k3⟩ := HQ4.out.c4 0 rfl
    cases hs : isS a b c d
    · go_wp2_with fail
      refine (sIsSegment_is a b c d _ _ hs).mono ?_
      rintro e w5 ⟨rfl, hb5⟩
      have HB5 := Lib.hid (HB4.out.next hb5)
      have HQ5 := Lib.hid (HQ4.out.nextB hb5)
      clear hb5 HB4 HQ4 k0 k1 k2 k3
      obtain ⟨k0, k1, k2, k3⟩ := HQ5.out.c4 0 rfl
      obtain ⟨k4, k5⟩ := HQ5.out.c2 1 rfl
      obtain ⟨j0, j1, j2, j3, j4, j5⟩ := HB5.out.c42p
      obtain ⟨g0, g1, g2, g3, g4, g5⟩ : _ ∧ _ ∧ _ ∧ _ ∧ _ ∧ _ := ⟨HB5.out.frz0 0, HB5.out.frz0 1, HB5.out.frz0 2, HB5.out.frz0 3, HB5.out.frozen (w.heap.size + 1) 1 0 rfl rfl, HB5.out.frozen (w.heap.size + 1) 1 1 rfl rfl⟩
      go_wp2_with fail
      go_region_held3 (fun w' => w'.cell? ⟨w2.heap.size, 0, none⟩ = some (.int .i64 a) ∧ w'.cell? ⟨w2.heap.size, 1, none⟩ = some (.int .i64 b) ∧ w'.cell? ⟨w2.heap.size, 2, none⟩ = some (.int .i64 c) ∧ w'.cell? ⟨w2.heap.size, 3, none⟩ = some (.int .i64 d) ∧ w'.cell? ⟨w3.heap.size, 0, none⟩ = some (.int .i64 x) ∧ w'.cell? ⟨w3.heap.size, 1, none⟩ = some (.int .i64 y)) (first | with_reducible exact ⟨k0, k1, k2, k3, k4, k5⟩ | (refine ⟨?_, ?_, ?_, ?_, ?_, ?_⟩ <;> simp [go_sem, k0, k1, k2, k3, k4, k5])) (fail)
      all_goals
        go_wp2
        refine bodyPost_ret (v := .tuple #[SegV a b c d, PtV x y]) (by simp [results, Try.results30, go_sem, j0, j1, j2, j3, j4, j5]) rfl ?_
        refine ⟨⟨a, b, c, d, x, y, rfl⟩, ?_⟩
        have h := HB5.out.1
        with_reducible exact (below_set2 (below_set4 h (Nat.le_refl _) _ _ _ _) (Nat.le_succ _) _ _).drew
    · obtain ⟨⟨a0, a1, b0, b1⟩, ⟨c0, c1, d0, d1⟩, _⟩ := isS_at hs
      go_wp2_with fail
      refine (sIsSegment_is a b c d _ _ hs).mono ?_
      rintro e w5 ⟨rfl, hb5⟩
      have HB5 := Lib.hid (HB4.out.next hb5)
      have HQ5 := Lib.hid (HQ4.out.nextB hb5)
      clear hb5 HB4 HQ4 k0 k1 k2 k3 hs
      obtain ⟨k0, k1, k2, k3⟩ := HQ5.out.c4 0 rfl
      obtain ⟨k4, k5⟩ := HQ5.out.c2 1 rfl
      obtain ⟨f4, f5⟩ := HQ5.out.f2 1 rfl
      obtain ⟨j0, j1, j2, j3, j4, j5⟩ := HB5.out.c42p
      obtain ⟨g0, g1, g2, g3, g4, g5⟩ : _ ∧ _ ∧ _ ∧ _ ∧ _ ∧ _ := ⟨HB5.out.frz0 0, HB5.out.frz0 1, HB5.out.frz0 2, HB5.out.frz0 3, HB5.out.frozen (w.heap.size + 1) 1 0 rfl rfl, HB5.out.frozen (w.heap.size + 1) 1 1 rfl rfl⟩
      go_wp2_with fail
      go_region_held3 (fun w' => w'.cell? ⟨w2.heap.size, 0, none⟩ = some (.int .i64 a) ∧ w'.cell? ⟨w2.heap.size, 1, none⟩ = some (.int .i64 b) ∧ w'.cell? ⟨w2.heap.size, 2, none⟩ = some (.int .i64 c) ∧ w'.cell? ⟨w2.heap.size, 3, none⟩ = some (.int .i64 d) ∧ w'.cell? ⟨w3.heap.size, 0, none⟩ = some (.int .i64 ((a + c) / 2)) ∧ w'.cell? ⟨w3.heap.size, 1, none⟩ = some (.int .i64 ((b + d) / 2))) ((refine ⟨?_, ?_, ?_, ?_, ?_, ?_⟩) <;> simp [go_sem, k0, k1, k2, k3, k4, k5]) (fail)
      all_goals
        go_wp2
        refine bodyPost_ret (v := .tuple #[SegV a b c d, PtV ((a + c) / 2) ((b + d) / 2)]) (by simp [results, Try.results30, go_sem, j0, j1, j2, j3, j4, j5]) rfl ?_
        refine ⟨⟨a, b, c, d, _, _, rfl⟩, ?_⟩
        have h := HB5.out.1
        with_reducible exact (below_set2 (below_set4 (below_set2 h (by omega) _ _) (Nat.le_refl _) _ _ _ _) (Nat.le_succ _) _ _).drew
end Go.Proofs.Ytbnjaaegbmhopaa
