/- Boxes: BoxesMeet, BoxesOverlap, GrowBox, JoinBoxes and BoxOf of package impl. -/
import Derived.Test.YtjnbdbgkecfkcaaBoxC
import Derived.Test.YtjnbdbgkecfkcaaBoxW
import Derived.Test.YtjnbdbgkecfkcaaHelpE
namespace Go.Proofs.Ytjnbdbgkecfkcaa
open Go.ChangeShapes Go.WideShapes Go.ChangeAt Go.RowKit
set_option linter.unusedVariables false

theorem sees_pe {w : World} {B : Nat} {A : Option Addr} {l : List (Int × Int)} (h : SeesE 2 encPoint w B A l) : SeesP w B A l := fun j x y hj => by
  obtain ⟨b, off, e, hb, hc⟩ := h j (x, y) hj
  exact ⟨b, off, e, hb, hc 0 _ rfl, hc 1 _ rfl⟩
theorem boxOf_is (A : Option Addr) (k : Nat) (l : List (Int × Int)) (r : BxR) (w : World) (hs : SeesE 2 encPoint w w.heap.size A l) (hl : l.length ≤ 1099511627776) (hlc : l.length ≤ k) (hc : (k : Int) ≤ 9223372036854775807) (hr : boxOfV l = r) :
    Calls Try.prog 37 #[.slice A l.length k] w fun e w' => e = .returned (bxV r) ∧ Below w.heap.size w w' := boxOf_ps_is A k l r w (sees_pe hs) hl hlc hc hr
theorem mt_ord {a b c d p q r s : Int} (h : isBx a b c d = true) (h' : isBx p q r s = true) : mtB a b c d p q r s = ordB (max a p) (max b q) (min c r) (min d s) := by
  have := isBx_at h
  have := isBx_at h'
  rw [Bool.eq_iff_iff]
  simp only [mtB, ordB, h, h', Bool.true_and, Bool.and_eq_true, decide_eq_true_eq]
  omega
theorem mt_1 {a b c d p q r s : Int} (h : isBx a b c d = false) : mtB a b c d p q r s = false := by simp [mtB, h]
theorem mt_2 {a b c d p q r s : Int} (h : isBx p q r s = false) : mtB a b c d p q r s = false := by simp [mtB, h]
theorem ov_no {a b c d p q r s : Int} (h : mtB a b c d p q r s = false) : ovB a b c d p q r s = false := by
  cases h1 : isBx a b c d
  · exact ov_1 h1
  · cases h2 : isBx p q r s
    · exact ov_2 h2
    · rw [mt_ord h1 h2] at h
      rw [Bool.eq_false_iff]
      intro ho
      simp only [ovB, h1, h2, Bool.true_and, Bool.and_eq_true, decide_eq_true_eq] at ho
      rw [Bool.eq_false_iff] at h
      apply h
      simp only [ordB, Bool.and_eq_true, decide_eq_true_eq]
      omega
theorem ov_yes {a b c d p q r s : Int} (h : mtB a b c d p q r s = true) : ovB a b c d p q r s = (decide (max a p < min c r) && decide (max b q < min d s)) := by
  cases h1 : isBx a b c d
  · rw [mt_1 h1] at h; cases h
  · cases h2 : isBx p q r s
    · rw [mt_2 h2] at h; cases h
    · simp [ovB, h1, h2]
set_option maxHeartbeats 1000000 in
theorem boxesMeet_is (a b c d p q r s : Int) (z : Bool) (w : World) (hz : mtB a b c d p q r s = z) :
    Calls Try.prog 40 #[SegV a b c d, SegV p q r s] w fun e w' => e = .returned (.bool z) ∧ Below w.heap.size w w' := by
  have HB := Lib.hid (Vars.of2 w (SegC a b c d) (SegC p q r s) 48 48)
  go_enter Try.func40, Try.ntmps40
  obtain ⟨k0, k1, k2, k3, k4, k5, k6, k7⟩ := HB.out.c44
  cases hu : isBx a b c d
  · obtain rfl : false = z := by rw [← hz, mt_1 hu]
    clear hz
    go_wp2_with fail
    refine (isBox_is a b c d false _ hu).mono ?_
    rintro e w1 ⟨rfl, hb1⟩
    have HB1 := Lib.hid (HB.out.next hb1)
    clear hb1
    go_wp2
    go_ret
    exact ⟨rfl, HB1.out.1⟩
  · go_wp2_with fail
    refine (isBox_is a b c d true _ hu).mono ?_
    rintro e w1 ⟨rfl, hb1⟩
    have HB1 := Lib.hid (HB.out.next hb1)
    clear hb1 k0 k1 k2 k3 k4 k5 k6 k7
    obtain ⟨k0, k1, k2, k3, k4, k5, k6, k7⟩ := HB1.out.c44
    cases hv : isBx p q r s
    · obtain rfl : false = z := by rw [← hz, mt_2 hv]
      clear hz
      go_wp2_with fail
      refine (isBox_is p q r s false _ hv).mono ?_
      rintro e w2 ⟨rfl, hb2⟩
      have HB2 := Lib.hid (HB1.out.next hb2)
      clear hb2
      go_wp2
      go_ret
      exact ⟨rfl, HB2.out.1⟩
    · have HZ := Lib.hid ((mt_ord hu hv).symm.trans hz)
      clear hz
      go_wp2_with fail
      refine (isBox_is p q r s true _ hv).mono ?_
      rintro e w2 ⟨rfl, hb2⟩
      have HB2 := Lib.hid (HB1.out.next hb2)
      clear hb2 k0 k1 k2 k3 k4 k5 k6 k7
      obtain ⟨k0, k1, k2, k3, k4, k5, k6, k7⟩ := HB2.out.c44
      go_wp2_with fail
      refine (share_any _ _ _ _ _ _ _ _ _).mono ?_
      rintro e w3 ⟨rfl, hb3⟩
      have HB3 := Lib.hid (HB2.out.next hb3)
      clear hb3 k0 k1 k2 k3 k4 k5 k6 k7
      go_wp2_with fail
      refine (ord_is _ _ _ _ z _ HZ.out).mono ?_
      rintro e w4 ⟨rfl, hb4⟩
      have HB4 := Lib.hid (HB3.out.next hb4)
      clear hb4
      go_wp2
      go_ret
      exact ⟨rfl, HB4.out.1⟩
set_option maxHeartbeats 1000000 in
theorem boxesOverlap_is (a b c d p q r s : Int) (z : Bool) (w : World) (hz : ovB a b c d p q r s = z) :
    Calls Try.prog 42 #[SegV a b c d, SegV p q r s] w fun e w' => e = .returned (.bool z) ∧ Below w.heap.size w w' := by
  have HB := Lib.hid (Vars.of2 w (SegC a b c d) (SegC p q r s) 48 48)
  go_enter Try.func42, Try.ntmps42
  obtain ⟨k0, k1, k2, k3, k4, k5, k6, k7⟩ := HB.out.c44
  go_wp2_with fail
  refine (share_any _ _ _ _ _ _ _ _ _).mono ?_
  rintro e w1 ⟨rfl, hb1⟩
  obtain ⟨x0, h0⟩ : ∃ z, max a p = z := ⟨_, rfl⟩
  obtain ⟨x1, h1⟩ : ∃ z, max b q = z := ⟨_, rfl⟩
  obtain ⟨x2, h2⟩ : ∃ z, min c r = z := ⟨_, rfl⟩
  obtain ⟨x3, h3⟩ : ∃ z, min d s = z := ⟨_, rfl⟩
  have HO : Hid (mtB a b c d p q r s = true → ovB a b c d p q r s = (decide (x0 < x2) && decide (x1 < x3))) := Lib.hid (fun h => by rw [ov_yes h, h0, h1, h2, h3])
  rw [h0, h1, h2, h3]
  have HB1 := Lib.hid ((HB.out.next hb1).al (.cells (SegC x0 x1 x2 x3) 48))
  have HS1 := Lib.hid (OneV.new (m := 0) w1 (Nat.zero_le _) (SegC x0 x1 x2 x3) 48)
  clear hb1 HB k0 k1 k2 k3 k4 k5 k6 k7 h0 h1 h2 h3
  obtain ⟨k0, k1, k2, k3, k4, k5, k6, k7⟩ := HB1.out.c44
  cases hm : mtB a b c d p q r s
  · obtain rfl : false = z := by rw [← hz, ov_no hm]
    clear hz
    go_wp2_with fail
    refine (boxesMeet_is a b c d p q r s false _ hm).mono ?_
    rintro e w2 ⟨rfl, hb2⟩
    have HB2 := Lib.hid (HB1.out.next hb2)
    clear hb2
    go_wp2
    go_ret
    exact ⟨rfl, HB2.out.1⟩
  · have HZ : Hid ((decide (x0 < x2) && decide (x1 < x3)) = z) := Lib.hid ((HO.out hm).symm.trans hz)
    clear hz HO
    go_wp2_with fail
    refine (boxesMeet_is a b c d p q r s true _ hm).mono ?_
    rintro e w2 ⟨rfl, hb2⟩
    have HB2 := Lib.hid (HB1.out.next hb2)
    have HS2 := Lib.hid (HS1.out.next hb2)
    clear hb2 k0 k1 k2 k3 k4 k5 k6 k7 hm
    obtain ⟨s0, s1, s2, s3⟩ := HS2.out.c4
    go_wp2
    all_goals
      go_ret
      refine ⟨ret_eq ?_, HB2.out.1⟩
      rw [← HZ.out]
      rw [Bool.eq_iff_iff]
      simp only [Bool.and_eq_true, decide_eq_true_eq, Bool.false_eq_true, false_iff, not_and]
      first | omega | grind
theorem join_cov {a b c d p q r s : Int} (h : isBx a b c d = true) (h' : isBx p q r s = true) : joinV a b c d p q r s = ((min a p, min b q, max c r, max d s), true) := by
  have h1 := isBx_at h
  have h2 := isBx_at h'
  have hp : allP [(a, b), (c, d), (p, q), (r, s)] = true := by
    simp only [isBx, Bool.and_eq_true, decide_eq_true_eq] at h h'
    simp [allP, h, h']
  rw [join_3 h h', boxOf_ps, hp]
  simp only [if_true, List.foldl_cons, List.foldl_nil, bxF, Prod.mk.injEq, and_true]
  omega
theorem grow_share {a b c d n : Int} (h : isBx a b c d = true) (h1 : inB n 0 200 = true) : growV a b c d n = ((max (a - n) 0, max (b - n) 0, min (c + n) 200, min (d + n) 200), true) := by
  rw [grow_3 h h1]
  simp only [Prod.mk.injEq, and_true]
  omega
set_option maxHeartbeats 1000000 in
theorem joinBoxes_is (a b c d p q r s : Int) (z : BxR) (w : World) (hz : joinV a b c d p q r s = z) :
    Calls Try.prog 43 #[SegV a b c d, SegV p q r s] w fun e w' => e = .returned (bxV z) ∧ Below w.heap.size w w' := by
  have HB := Lib.hid (Vars.of3 w (SegC a b c d) (SegC p q r s) (SegC 0 0 0 0) 48 48 48)
  have HZ := Lib.hid hz
  clear hz
  go_enter Try.func43, Try.ntmps43
  obtain ⟨k0, k1, k2, k3, k4, k5, k6, k7⟩ := HB.out.c44
  cases hu : isBx a b c d
  · go_wp2_with fail
    refine (isBox_is a b c d false _ hu).mono ?_
    rintro e w1 ⟨rfl, hb1⟩
    have HB1 := Lib.hid (HB.out.next hb1)
    clear hb1 k0 k1 k2 k3 k4 k5 k6 k7
    obtain ⟨k0, k1, k2, k3⟩ := HB1.out.c42
    obtain ⟨f0, f1, f2, f3⟩ := HB1.out.fr42
    go_wp2
    refine bodyPost_ret (v := bxV ((0, 0, 0, 0), false)) (by simp [results, Try.results43, go_sem, k0, k1, k2, k3]) rfl ?_
    exact ⟨ret_bx ((join_1 hu).symm.trans HZ.out), HB1.out.set40 (by omega) _ _ _ _⟩
  · go_wp2_with fail
    refine (isBox_is a b c d true _ hu).mono ?_
    rintro e w1 ⟨rfl, hb1⟩
    have HB1 := Lib.hid (HB.out.next hb1)
    clear hb1 k0 k1 k2 k3 k4 k5 k6 k7
    obtain ⟨k0, k1, k2, k3, k4, k5, k6, k7⟩ := HB1.out.c44
    cases hv : isBx p q r s
    · go_wp2_with fail
      refine (isBox_is p q r s false _ hv).mono ?_
      rintro e w2 ⟨rfl, hb2⟩
      have HB2 := Lib.hid (HB1.out.next hb2)
      clear hb2 k0 k1 k2 k3 k4 k5 k6 k7
      obtain ⟨k0, k1, k2, k3⟩ := HB2.out.c42
      obtain ⟨f0, f1, f2, f3⟩ := HB2.out.fr42
      go_wp2
      refine bodyPost_ret (v := bxV ((0, 0, 0, 0), false)) (by simp [results, Try.results43, go_sem, k0, k1, k2, k3]) rfl ?_
      exact ⟨ret_bx ((join_2 hv).symm.trans HZ.out), HB2.out.set40 (by omega) _ _ _ _⟩
    · have HJ := Lib.hid ((join_cov hu hv).symm.trans HZ.out)
      go_wp2_with fail
      refine (isBox_is p q r s true _ hv).mono ?_
      rintro e w2 ⟨rfl, hb2⟩
      have HB2 := Lib.hid (HB1.out.next hb2)
      clear hb2 k0 k1 k2 k3 k4 k5 k6 k7 HZ
      obtain ⟨k0, k1, k2, k3, k4, k5, k6, k7⟩ := HB2.out.c44
      go_wp2_with fail
      refine (cover_any _ _ _ _ _ _ _ _ _).mono ?_
      rintro e w3 ⟨rfl, hb3⟩
      have HB3 := Lib.hid (HB2.out.next hb3)
      clear hb3 k0 k1 k2 k3 k4 k5 k6 k7
      obtain ⟨k0, k1, k2, k3⟩ := HB3.out.c42
      obtain ⟨f0, f1, f2, f3⟩ := HB3.out.fr42
      go_wp2
      refine bodyPost_ret (v := bxV ((min a p, min b q, max c r, max d s), true)) (by simp [results, Try.results43, go_sem, k0, k1, k2, k3]) rfl ?_
      exact ⟨ret_bx HJ.out, HB3.out.set40 (by omega) _ _ _ _⟩
set_option maxRecDepth 100000 in
set_option maxHeartbeats 2000000 in
theorem push_any (a b c d n : Int) (w : World) (ha : 0 ≤ a ∧ a ≤ 200) (hb : 0 ≤ b ∧ b ≤ 200) (hc : 0 ≤ c ∧ c ≤ 200) (hd : 0 ≤ d ∧ d ≤ 200) (hn : 0 ≤ n ∧ n ≤ 200) :
    Calls Try.prog 97 #[SegV a b c d, .int .i64 n] w fun e w' => e = .returned (SegV (a - n) (b - n) (c + n) (d + n)) ∧ Below w.heap.size w w' := by
  have HB := Lib.hid (Vars.of2 w (SegC a b c d) (SegC 0 0 0 0) 48 48)
  go_enter Try.func97, Try.ntmps97
  go_wp2_with fail
  refine (boundsOf_any a b c d _).mono ?_
  rintro e w1 ⟨rfl, hb1⟩
  have HV0 := Lib.hid ((HB.out.next hb1).al (.cells (SegC a b c d) 128))
  have HX0 := Lib.hid (OneV.new (m := w.heap.size + 2) w1 (HB.out.next hb1).more2 (SegC a b c d) 128)
  have hk1 : w.heap.size + 2 ≤ w1.heap.size := (HB.out.next hb1).more2
  clear hb1 HB
  go_wp2
  go_loopg [] 4 (fun g wr => ∃ j : Nat, j + g = 4 ∧ Hid (ItAt wr (w1.heap.size + 1) outS j) ∧ Hid (Vars w wr [SegC a b c d, SegC 0 0 0 0]) ∧ Hid (OneV (w.heap.size + 2) wr w1.heap.size (pkC (· - ·) (· + ·) a b c d n n n n j)))
  case atStart => exact ⟨0, by omega, Lib.hid (by unfold ItAt; have := World.iter_heap (w1.alloc (.cells (SegC a b c d) 128)) outS 0; simpa using this), Lib.hid (HV0.out.al _), Lib.hid (HX0.out.al _)⟩
  case round =>
    obtain ⟨j, hjg, HI, HVr, H7r⟩ := hrel
    clear HV0 HX0
    rcases (by omega : j = 0 ∨ j = 1 ∨ j = 2 ∨ j = 3 ∨ j = 4) with rfl | rfl | rfl | rfl | rfl
    · obtain rfl : gk = 4 := by omega
      have hnx : ∀ ty, (Instr.next (.pointer (some ⟨w1.heap.size + 1, 0, none⟩)) true ty).run Try.prog wr = .ok (.tuple #[.bool true, .int .i64 0, .int .i32 60]) (wr.iterAt (w1.heap.size + 1) outS 1) := fun ty => Lib.run_next_ascii_at wr (w1.heap.size + 1) outS 0 ty HI.out (by decide) (by decide)
      obtain ⟨wn, hwn⟩ : ∃ wn, wr.iterAt (w1.heap.size + 1) outS 1 = wn := ⟨_, rfl⟩
      have HI1 : Hid (ItAt wn (w1.heap.size + 1) outS 1) := Lib.hid (by rw [← hwn]; exact HI.out.moved 1)
      have HV1 : Hid (Vars w wn [SegC a b c d, SegC 0 0 0 0]) := Lib.hid (by rw [← hwn]; exact HVr.out.iter (Nat.le_succ_of_le hk1) _ _)
      have H71 : Hid (OneV (w.heap.size + 2) wn w1.heap.size (pkC (· - ·) (· + ·) a b c d n n n n 0)) := Lib.hid (by rw [← hwn]; exact OneV.iter H7r.out (by omega) _ _)
      rw [hwn] at hnx
      clear hwn HI HVr H7r
      obtain ⟨x0, x1, x2, x3⟩ := H71.out.c4
      obtain ⟨f0, f1, f2, f3⟩ := H71.out.f4
      go_wp2
      go_roundg 3
      case measure => omega
      case rel => exact ⟨1, by omega, Lib.hid (HI1.out.put (by omega) 0 _), Lib.hid (HV1.out.put2 hk1 0 _), Lib.hid (H71.out.set 0 _)⟩
    · obtain rfl : gk = 3 := by omega
      have hnx : ∀ ty, (Instr.next (.pointer (some ⟨w1.heap.size + 1, 0, none⟩)) true ty).run Try.prog wr = .ok (.tuple #[.bool true, .int .i64 1, .int .i32 60]) (wr.iterAt (w1.heap.size + 1) outS 2) := fun ty => Lib.run_next_ascii_at wr (w1.heap.size + 1) outS 1 ty HI.out (by decide) (by decide)
      obtain ⟨wn, hwn⟩ : ∃ wn, wr.iterAt (w1.heap.size + 1) outS 2 = wn := ⟨_, rfl⟩
      have HI1 : Hid (ItAt wn (w1.heap.size + 1) outS 2) := Lib.hid (by rw [← hwn]; exact HI.out.moved 2)
      have HV1 : Hid (Vars w wn [SegC a b c d, SegC 0 0 0 0]) := Lib.hid (by rw [← hwn]; exact HVr.out.iter (Nat.le_succ_of_le hk1) _ _)
      have H71 : Hid (OneV (w.heap.size + 2) wn w1.heap.size (pkC (· - ·) (· + ·) a b c d n n n n 1)) := Lib.hid (by rw [← hwn]; exact OneV.iter H7r.out (by omega) _ _)
      rw [hwn] at hnx
      clear hwn HI HVr H7r
      obtain ⟨x0, x1, x2, x3⟩ := H71.out.c4
      obtain ⟨f0, f1, f2, f3⟩ := H71.out.f4
      go_wp2
      go_roundg 2
      case measure => omega
      case rel => exact ⟨2, by omega, Lib.hid (HI1.out.put (by omega) 1 _), Lib.hid (HV1.out.put2 hk1 1 _), Lib.hid (H71.out.set 1 _)⟩
    · obtain rfl : gk = 2 := by omega
      have hnx : ∀ ty, (Instr.next (.pointer (some ⟨w1.heap.size + 1, 0, none⟩)) true ty).run Try.prog wr = .ok (.tuple #[.bool true, .int .i64 2, .int .i32 62]) (wr.iterAt (w1.heap.size + 1) outS 3) := fun ty => Lib.run_next_ascii_at wr (w1.heap.size + 1) outS 2 ty HI.out (by decide) (by decide)
      obtain ⟨wn, hwn⟩ : ∃ wn, wr.iterAt (w1.heap.size + 1) outS 3 = wn := ⟨_, rfl⟩
      have HI1 : Hid (ItAt wn (w1.heap.size + 1) outS 3) := Lib.hid (by rw [← hwn]; exact HI.out.moved 3)
      have HV1 : Hid (Vars w wn [SegC a b c d, SegC 0 0 0 0]) := Lib.hid (by rw [← hwn]; exact HVr.out.iter (Nat.le_succ_of_le hk1) _ _)
      have H71 : Hid (OneV (w.heap.size + 2) wn w1.heap.size (pkC (· - ·) (· + ·) a b c d n n n n 2)) := Lib.hid (by rw [← hwn]; exact OneV.iter H7r.out (by omega) _ _)
      rw [hwn] at hnx
      clear hwn HI HVr H7r
      obtain ⟨x0, x1, x2, x3⟩ := H71.out.c4
      obtain ⟨f0, f1, f2, f3⟩ := H71.out.f4
      go_wp2
      go_roundg 1
      case measure => omega
      case rel => exact ⟨3, by omega, Lib.hid (HI1.out.put (by omega) 2 _), Lib.hid (HV1.out.put2 hk1 2 _), Lib.hid (H71.out.set 2 _)⟩
    · obtain rfl : gk = 1 := by omega
      have hnx : ∀ ty, (Instr.next (.pointer (some ⟨w1.heap.size + 1, 0, none⟩)) true ty).run Try.prog wr = .ok (.tuple #[.bool true, .int .i64 3, .int .i32 62]) (wr.iterAt (w1.heap.size + 1) outS 4) := fun ty => Lib.run_next_ascii_at wr (w1.heap.size + 1) outS 3 ty HI.out (by decide) (by decide)
      obtain ⟨wn, hwn⟩ : ∃ wn, wr.iterAt (w1.heap.size + 1) outS 4 = wn := ⟨_, rfl⟩
      have HI1 : Hid (ItAt wn (w1.heap.size + 1) outS 4) := Lib.hid (by rw [← hwn]; exact HI.out.moved 4)
      have HV1 : Hid (Vars w wn [SegC a b c d, SegC 0 0 0 0]) := Lib.hid (by rw [← hwn]; exact HVr.out.iter (Nat.le_succ_of_le hk1) _ _)
      have H71 : Hid (OneV (w.heap.size + 2) wn w1.heap.size (pkC (· - ·) (· + ·) a b c d n n n n 3)) := Lib.hid (by rw [← hwn]; exact OneV.iter H7r.out (by omega) _ _)
      rw [hwn] at hnx
      clear hwn HI HVr H7r
      obtain ⟨x0, x1, x2, x3⟩ := H71.out.c4
      obtain ⟨f0, f1, f2, f3⟩ := H71.out.f4
      go_wp2
      go_roundg 0
      case measure => omega
      case rel => exact ⟨4, by omega, Lib.hid (HI1.out.put (by omega) 3 _), Lib.hid (HV1.out.put2 hk1 3 _), Lib.hid (H71.out.set 3 _)⟩
    · obtain rfl : gk = 0 := by omega
      have hnx : ∀ ty, (Instr.next (.pointer (some ⟨w1.heap.size + 1, 0, none⟩)) true ty).run Try.prog wr = .ok (.tuple #[.bool false]) wr := fun ty => Lib.run_next_end_at wr (w1.heap.size + 1) outS 4 ty HI.out (by decide)
      obtain ⟨x0, x1, x2, x3⟩ := H7r.out.c4
      go_wp2_with fail
      refine (boxB_any _ _ _ _ _).mono ?_
      rintro e w9 ⟨rfl, hb9⟩
      have HV9 := Lib.hid (HVr.out.next hb9)
      clear hb9 x0 x1 x2 x3 HVr H7r HI
      obtain ⟨j0, j1, j2, j3⟩ := HV9.out.c41
      obtain ⟨f0, f1, f2, f3⟩ := HV9.out.fr81
      go_wp2
      refine bodyPost_ret (v := SegV (a - n) (b - n) (c + n) (d + n)) (by simp [results, Try.results97, go_sem, j0, j1, j2, j3]) rfl ?_
      exact ⟨rfl, HV9.out.set40 (by omega) _ _ _ _⟩
theorem Vars.put4 {w0 w : World} {cs : Array Value} {v0 v1 v2 v3 : Value} (h : Vars w0 w [cs, #[v0, v1, v2, v3]]) (u0 u1 u2 u3 : Value) :
    Vars w0 ((((w.setCell ⟨w0.heap.size + 1, 0, none⟩ u0).setCell ⟨w0.heap.size + 1, 1, none⟩ u1).setCell ⟨w0.heap.size + 1, 2, none⟩ u2).setCell ⟨w0.heap.size + 1, 3, none⟩ u3) [cs, #[u0, u1, u2, u3]] :=
  (((h.setAt _ 1 0 rfl rfl u0).setAt _ 1 1 rfl rfl u1).setAt _ 1 2 rfl rfl u2).setAt _ 1 3 rfl rfl u3
set_option maxRecDepth 100000 in
set_option maxHeartbeats 2000000 in
theorem growBox_is (a b c d n : Int) (r : BxR) (w : World) (hr : growV a b c d n = r) :
    Calls Try.prog 45 #[SegV a b c d, .int .i64 n] w fun e w' => e = .returned (bxV r) ∧ Below w.heap.size w w' := by
  have HB := Lib.hid (Vars.of2 w (SegC a b c d) (SegC 0 0 0 0) 48 48)
  have HR := Lib.hid hr
  clear hr
  go_enter Try.func45, Try.ntmps45
  obtain ⟨k0, k1, k2, k3, k4, k5, k6, k7⟩ := HB.out.c44
  cases hu : isBx a b c d
  · go_wp2_with fail
    refine (isBox_is a b c d false _ hu).mono ?_
    rintro e w1 ⟨rfl, hb1⟩
    have HB1 := Lib.hid (HB.out.next hb1)
    clear hb1 k0 k1 k2 k3 k4 k5 k6 k7
    obtain ⟨k0, k1, k2, k3, k4, k5, k6, k7⟩ := HB1.out.c44
    obtain ⟨f0, f1, f2, f3⟩ := HB1.out.fr81
    go_wp2
    refine bodyPost_ret (v := bxV ((a, b, c, d), false)) (by simp [results, Try.results45, go_sem, k4, k5, k6, k7]) rfl ?_
    exact ⟨ret_bx ((grow_1 hu).symm.trans HR.out), HB1.out.set40 (by omega) _ _ _ _⟩
  · go_wp2_with fail
    refine (isBox_is a b c d true _ hu).mono ?_
    rintro e w1 ⟨rfl, hb1⟩
    have HB1 := Lib.hid (HB.out.next hb1)
    clear hb1 k0 k1 k2 k3 k4 k5 k6 k7
    obtain ⟨k0, k1, k2, k3, k4, k5, k6, k7⟩ := HB1.out.c44
    obtain ⟨f0, f1, f2, f3⟩ := HB1.out.fr81
    cases hv : inB n 0 200
    · go_wp2_with fail
      refine (in_is _ _ _ _ _ hv).mono ?_
      rintro e w2 ⟨rfl, rfl⟩
      go_wp2
      refine bodyPost_ret (v := bxV ((a, b, c, d), false)) (by simp [results, Try.results45, go_sem, k4, k5, k6, k7]) rfl ?_
      exact ⟨ret_bx ((grow_2 hv).symm.trans HR.out), HB1.out.set40 (by omega) _ _ _ _⟩
    · have hbd := isBx_at hu
      have hnb : 0 ≤ n ∧ n ≤ 200 := by simpa [inB] using hv
      have HP := Lib.hid (And.intro hbd hnb)
      have HJ := Lib.hid ((grow_share hu hv).symm.trans HR.out)
      go_wp2_with fail
      refine (in_is _ _ _ _ _ hv).mono ?_
      rintro e w2 ⟨rfl, rfl⟩
      have HV0 := Lib.hid (HB1.out.al (.cells (SegC 0 0 200 200) 48))
      have HX0 := Lib.hid (OneV.new (m := w.heap.size + 2) w1 HB1.out.more2 (SegC 0 0 200 200) 48)
      clear hbd hnb hu hv HR k0 k1 k2 k3 k4 k5 k6 k7 f0 f1 f2 f3
      go_upto_region 4 with fail
      generalize (w1.alloc (.cells (SegC 0 0 200 200) 48)) = wz at HV0 HX0 ⊢
      have HKD := Lib.hid (And.intro HV0.out.drew.c40 HX0.out.drew.c4)
      have hne9 : ¬ w1.heap.size = w.heap.size + 1 := by have := HX0.out.le; omega
      obtain ⟨k0, k1, k2, k3⟩ := HV0.out.c40
      obtain ⟨x0, x1, x2, x3⟩ := HX0.out.c4
      have hS : Hid (∀ W : World, ((W.cell? ⟨w.heap.size, 0, none⟩ = some (.int .i64 a) ∧ W.cell? ⟨w.heap.size, 1, none⟩ = some (.int .i64 b) ∧ W.cell? ⟨w.heap.size, 2, none⟩ = some (.int .i64 c) ∧ W.cell? ⟨w.heap.size, 3, none⟩ = some (.int .i64 d)) ∧ (W.cell? ⟨w1.heap.size, 0, none⟩ = some (.int .i64 0) ∧ W.cell? ⟨w1.heap.size, 1, none⟩ = some (.int .i64 0) ∧ W.cell? ⟨w1.heap.size, 2, none⟩ = some (.int .i64 200) ∧ W.cell? ⟨w1.heap.size, 3, none⟩ = some (.int .i64 200))) →
        W.cell? ⟨w.heap.size, 0, none⟩ = some (.int .i64 a) ∧ W.cell? ⟨w.heap.size, 1, none⟩ = some (.int .i64 b) ∧ W.cell? ⟨w.heap.size, 2, none⟩ = some (.int .i64 c) ∧ W.cell? ⟨w.heap.size, 3, none⟩ = some (.int .i64 d) ∧ W.cell? ⟨w1.heap.size, 0, none⟩ = some (.int .i64 0) ∧ W.cell? ⟨w1.heap.size, 1, none⟩ = some (.int .i64 0) ∧ W.cell? ⟨w1.heap.size, 2, none⟩ = some (.int .i64 200) ∧ W.cell? ⟨w1.heap.size, 3, none⟩ = some (.int .i64 200)) := Lib.hid fun W h => ⟨h.1.1, h.1.2.1, h.1.2.2.1, h.1.2.2.2, h.2.1, h.2.2.1, h.2.2.2.1, h.2.2.2.2⟩
      go_region_held3 (fun w' => w'.cell? ⟨w.heap.size, 0, none⟩ = some (.int .i64 a) ∧ w'.cell? ⟨w.heap.size, 1, none⟩ = some (.int .i64 b) ∧ w'.cell? ⟨w.heap.size, 2, none⟩ = some (.int .i64 c) ∧ w'.cell? ⟨w.heap.size, 3, none⟩ = some (.int .i64 d) ∧ w'.cell? ⟨w1.heap.size, 0, none⟩ = some (.int .i64 0) ∧ w'.cell? ⟨w1.heap.size, 1, none⟩ = some (.int .i64 0) ∧ w'.cell? ⟨w1.heap.size, 2, none⟩ = some (.int .i64 200) ∧ w'.cell? ⟨w1.heap.size, 3, none⟩ = some (.int .i64 200)) (first | with_reducible exact ⟨k0, k1, k2, k3, x0, x1, x2, x3⟩ | with_reducible exact hS.out _ HKD.out | with_reducible exact hS.out _ HK9.out | with_reducible exact hS.out _ ⟨(HV9.out.put4 _ _ _ _).c40, (HX9.out.other4 hne9 _ _ _ _).c4⟩ | fail) (first
        | (go_at_call 97; refine (push_any _ _ _ _ _ _ (by have := HP.out; omega) (by have := HP.out; omega) (by have := HP.out; omega) (by have := HP.out; omega) (by have := HP.out; omega)).mono ?_; rintro e w9 ⟨rfl, hb9⟩; have HV9 := Lib.hid (HV0.out.drew.next hb9); have HX9 := Lib.hid (HX0.out.drew.next hb9); have HK9 := Lib.hid (And.intro HV9.out.c40 HX9.out.c4))
        | (go_at_call 72; refine (share_any _ _ _ _ _ _ _ _ _).mono ?_; rintro e w9 ⟨rfl, hb9⟩; have HV9 := Lib.hid (HV9.out.next hb9); have HX9 := Lib.hid (HX9.out.next hb9); have HK9 := Lib.hid (And.intro HV9.out.c40 HX9.out.c4); obtain ⟨j0, j1, j2, j3⟩ := HV9.out.c41; obtain ⟨f0, f1, f2, f3⟩ : _ ∧ _ ∧ _ ∧ _ := ⟨HV9.out.fr81.1, HV9.out.fr81.2.1, HV9.out.fr81.2.2.1, HV9.out.fr81.2.2.2.1⟩) | fail)
      all_goals
        go_wp2
        refine bodyPost_ret (v := bxV ((max (a - n) 0, max (b - n) 0, min (c + n) 200, min (d + n) 200), true)) (by simp [results, Try.results45, go_sem, j0, j1, j2, j3]) rfl ?_
        exact ⟨ret_bx HJ.out, HV9.out.set40 (by omega) _ _ _ _⟩
end Go.Proofs.Ytjnbdbgkecfkcaa
