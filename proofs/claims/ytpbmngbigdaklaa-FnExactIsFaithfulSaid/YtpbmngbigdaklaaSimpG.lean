/- Simpler lines: IsFaithful of package impl. -/
import Derived.Test.YtpbmngbigdaklaaSimpN
import Derived.Test.YtpbmngbigdaklaaSimpQ
import Derived.Test.YtpbmngbigdaklaaLineL
import Derived.Test.YtpbmngbigdaklaaLineS2
import Derived.Shelf.Abstract
namespace Go.Proofs.Ytpbmngbigdaklaa
open Go.ChangeShapes Go.WideShapes Go.ChangeAt Go.RowKit
set_option linter.unusedVariables false
/-- Do both begin and end at the same points? -/
def endsV (l k : List (Int × Int)) : Bool := decide (ptA l 0 = ptA k 0) && decide (ptA l (l.length - 1) = ptA k (k.length - 1))
theorem faith_ends (l k : List (Int × Int)) (n : Int) : faithV l k n = (isLn l && (isLn k && (endsV l k && l.all fun p => nearAny (sgV k) p n))) := by
  unfold faithV endsV; rw [Bool.and_assoc]
theorem pair_dec (a b c d : Int) : decide (((a, b) : Int × Int) = (c, d)) = (decide (a = c) && decide (b = d)) := by rw [Bool.eq_iff_iff]; simp
/-- The end points' cells. -/
theorem endsC {l : List (Int × Int)} {A : Option Addr} {B : Nat} {w : World} (hs : SeesE 2 encPoint w B A l) (hl : 0 < l.length) : ∃ b off p0 p1 r0 r1, A = some ⟨b, off, none⟩ ∧ b < B ∧ ptA l 0 = (p0, p1) ∧ ptA l (l.length - 1) = (r0, r1) ∧
    w.cell? ⟨b, off, none⟩ = some (.int .i64 p0) ∧ w.cell? ⟨b, off + 1, none⟩ = some (.int .i64 p1) ∧ w.cell? ⟨b, off + (l.length - 1) * 2, none⟩ = some (.int .i64 r0) ∧ w.cell? ⟨b, off + (l.length - 1) * 2 + 1, none⟩ = some (.int .i64 r1) := by
  obtain ⟨⟨p0, p1⟩, hp⟩ : ∃ p, l[0]? = some p := ⟨_, List.getElem?_eq_getElem (by omega)⟩
  obtain ⟨⟨r0, r1⟩, hr⟩ : ∃ p, l[l.length - 1]? = some p := ⟨_, List.getElem?_eq_getElem (by omega)⟩
  obtain ⟨b, off, rfl, hb, -⟩ := hs 0 _ hp
  obtain ⟨k0, k1⟩ := cellsPoint hs hp
  obtain ⟨k2, k3⟩ := cellsPoint hs hr
  exact ⟨b, off, p0, p1, r0, r1, rfl, hb, ptA_get hp, ptA_get hr, by simpa using k0, by simpa using k1, k2, k3⟩
def sameET : List (Nat × Nat × Nat) := [(0, 6, 1), (1, 7, 32), (2, 8, 64), (0, 9, 2), (8, 10, 256), (16, 11, 512), (36, 12, 1152), (64, 13, 2048), (128, 14, 4097), (128, 15, 4097), (640, 16, 20480), (1152, 17, 36864), (2432, 18, 77824), (4224, 19, 135168), (128, 20, 4098), (128, 21, 4098), (32896, 22, 1052672), (65664, 23, 2101248), (147584, 24, 4722688), (262272, 25, 8392704), (532608, 26, 17043456), (1048704, 27, 33558528), (4194303, 5, 67108864)]
def sameES : List (Nat × Bool) := [(0, true), (1, true), (2, true), (3, true), (4, true), (5, true), (6, true), (7, true), (8, true), (9, true), (10, true), (11, true), (12, true), (13, true), (14, true), (15, true), (16, true), (17, true), (18, true), (19, true), (20, true), (21, true), (22, true)]
set_option maxRecDepth 100000 in
set_option maxHeartbeats 4000000 in
theorem haveSameEnds_is (A A' : Option Addr) (c c' : Nat) (l l' : List (Int × Int)) (w : World) (hs : SeesE 2 encPoint w w.heap.size A l) (hs' : SeesE 2 encPoint w w.heap.size A' l') (h0 : 0 < l.length) (h0' : 0 < l'.length) (hl : l.length ≤ 1099511627776) (hl' : l'.length ≤ 1099511627776) (z : Bool) (hz : endsV l l' = z) :
    Calls Try.prog 30 #[.slice A l.length c, .slice A' l'.length c'] w fun e w' => e = .returned (.bool z) ∧ Below w.heap.size w w' := by
  obtain ⟨b, off, p0, p1, r0, r1, rfl, -, e0, e1, c0, c1, c2, c3⟩ := endsC hs h0
  obtain ⟨b', off', q0, q1, s0, s1, rfl, -, e0', e1', d0, d1, d2, d3⟩ := endsC hs' h0'
  unfold endsV at hz
  rw [e0, e1, e0', e1', pair_dec, pair_dec] at hz
  obtain ⟨n, hn⟩ : ∃ n, l.length = n := ⟨_, rfl⟩
  obtain ⟨n', hn'⟩ : ∃ n, l'.length = n := ⟨_, rfl⟩
  obtain ⟨m, hm⟩ : ∃ m, l.length - 1 = m := ⟨_, rfl⟩
  obtain ⟨m', hm'⟩ : ∃ m, l'.length - 1 = m := ⟨_, rfl⟩
  rw [hm] at c2 c3; rw [hm'] at d2 d3; rw [hn] at h0 hl hm ⊢; rw [hn'] at h0' hl' hm' ⊢
  have HQ : Hid ((w.cell? ⟨b, off, none⟩ = some (.int .i64 p0) ∧ w.cell? ⟨b, off + 1, none⟩ = some (.int .i64 p1) ∧ w.cell? ⟨b', off', none⟩ = some (.int .i64 q0) ∧ w.cell? ⟨b', off' + 1, none⟩ = some (.int .i64 q1)) ∧ w.cell? ⟨b, off + m * 2, none⟩ = some (.int .i64 r0) ∧ w.cell? ⟨b, off + m * 2 + 1, none⟩ = some (.int .i64 r1) ∧ w.cell? ⟨b', off' + m' * 2, none⟩ = some (.int .i64 s0) ∧ w.cell? ⟨b', off' + m' * 2 + 1, none⟩ = some (.int .i64 s1)) := Lib.hid ⟨⟨c0, c1, d0, d1⟩, c2, c3, d2, d3⟩
  have HZ := Lib.hid hz
  have i0 : (0 : Int) < (n : Int) := by omega
  have i1 : (0 : Int) < (n' : Int) := by omega
  have i2 : (n : Int) - 1 = (m : Int) := by omega
  have i3 : (n' : Int) - 1 = (m' : Int) := by omega
  have i4 : (m : Int) < (n : Int) := by omega
  have i5 : (m' : Int) < (n' : Int) := by omega
  have i6 : IntKind.i64.wrap (m : Int) = (m : Int) := by rw [IntKind.wrap_i64]; omega
  have i7 : IntKind.i64.wrap (m' : Int) = (m' : Int) := by rw [IntKind.wrap_i64]; omega
  have hp0 := ptEql p0 p1 q0 q1
  have hp1 := ptEql r0 r1 s0 s1
  clear hs hs' hz e0 e1 e0' e1' c0 c1 c2 c3 d0 d1 d2 d3 hn hn' hm hm'
  go_enter Try.func30, Try.ntmps30
  go_upto_region 1 with fail
  cases h1 : (decide (p0 = q0) && decide (p1 = q1))
  · rw [h1] at hp0
    have HC : Hid (false = z) := Lib.hid (by rw [← HZ.out, h1]; rfl)
    clear HZ hp1
    refine wp_region_held_drew (S := (fun w' => (w'.cell? ⟨b, off, none⟩ = some (.int .i64 p0) ∧ w'.cell? ⟨b, off + 1, none⟩ = some (.int .i64 p1) ∧ w'.cell? ⟨b', off', none⟩ = some (.int .i64 q0) ∧ w'.cell? ⟨b', off' + 1, none⟩ = some (.int .i64 q1)) ∧ w'.cell? ⟨b, off + m * 2, none⟩ = some (.int .i64 r0) ∧ w'.cell? ⟨b, off + m * 2 + 1, none⟩ = some (.int .i64 r1) ∧ w'.cell? ⟨b', off' + m' * 2, none⟩ = some (.int .i64 s0) ∧ w'.cell? ⟨b', off' + m' * 2 + 1, none⟩ = some (.int .i64 s1))) (by kernel_rfl) HQ.out (fun hHeld => ?_)
    refine to_lin (T := sameET) (n := 23) sameES ⟨by kernel_rfl, by kernel_rfl, by kernel_rfl⟩ (by kernel_rfl) (fun hTag => ?_)
    iterate 8 (refine lin_on (v := ?_) rfl (fun _ _ _ h => h) (by rfl) ?_ (by assumption) ?_; rotate_left; (· (intro wq hSw; go_simp; try with_reducible rfl)); try simp only [Act.put, List.setIfInBounds_toArray, List.set_cons_zero, List.set_cons_succ])
    iterate 13 (refine lin_off rfl (fun _ _ _ h => h) (by rfl) (by assumption) ?_; try simp only [Act.put, List.setIfInBounds_toArray, List.set_cons_zero, List.set_cons_succ])
    iterate 2 (refine lin_on (v := ?_) rfl (fun _ _ _ h => h) (by rfl) ?_ (by assumption) ?_; rotate_left; (· (intro wq hSw; go_simp; try with_reducible rfl)); try simp only [Act.put, List.setIfInBounds_toArray, List.set_cons_zero, List.set_cons_succ])
    refine lin_done ?_
    go_wp2
    go_ret
    exact ⟨ret_eq HC.out, (Below.refl _ _).drew⟩
  · rw [h1] at hp0
    cases h2 : (decide (r0 = s0) && decide (r1 = s1))
    · rw [h2] at hp1
      have HC : Hid (false = z) := Lib.hid (by rw [← HZ.out, h1, h2]; rfl)
      clear HZ
      refine wp_region_held_drew (S := (fun w' => (w'.cell? ⟨b, off, none⟩ = some (.int .i64 p0) ∧ w'.cell? ⟨b, off + 1, none⟩ = some (.int .i64 p1) ∧ w'.cell? ⟨b', off', none⟩ = some (.int .i64 q0) ∧ w'.cell? ⟨b', off' + 1, none⟩ = some (.int .i64 q1)) ∧ w'.cell? ⟨b, off + m * 2, none⟩ = some (.int .i64 r0) ∧ w'.cell? ⟨b, off + m * 2 + 1, none⟩ = some (.int .i64 r1) ∧ w'.cell? ⟨b', off' + m' * 2, none⟩ = some (.int .i64 s0) ∧ w'.cell? ⟨b', off' + m' * 2 + 1, none⟩ = some (.int .i64 s1))) (by kernel_rfl) HQ.out (fun hHeld => ?_)
      refine to_lin (T := sameET) (n := 23) sameES ⟨by kernel_rfl, by kernel_rfl, by kernel_rfl⟩ (by kernel_rfl) (fun hTag => ?_)
      iterate 23 (refine lin_on (v := ?_) rfl (fun _ _ _ h => h) (by rfl) ?_ (by assumption) ?_; rotate_left; (· (intro wq hSw; go_simp; try with_reducible rfl)); try simp only [Act.put, List.setIfInBounds_toArray, List.set_cons_zero, List.set_cons_succ])
      refine lin_done ?_
      go_wp2
      go_ret
      exact ⟨ret_eq HC.out, (Below.refl _ _).drew⟩
    · rw [h2] at hp1
      have HC : Hid (true = z) := Lib.hid (by rw [← HZ.out, h1, h2]; rfl)
      clear HZ
      refine wp_region_held_drew (S := (fun w' => (w'.cell? ⟨b, off, none⟩ = some (.int .i64 p0) ∧ w'.cell? ⟨b, off + 1, none⟩ = some (.int .i64 p1) ∧ w'.cell? ⟨b', off', none⟩ = some (.int .i64 q0) ∧ w'.cell? ⟨b', off' + 1, none⟩ = some (.int .i64 q1)) ∧ w'.cell? ⟨b, off + m * 2, none⟩ = some (.int .i64 r0) ∧ w'.cell? ⟨b, off + m * 2 + 1, none⟩ = some (.int .i64 r1) ∧ w'.cell? ⟨b', off' + m' * 2, none⟩ = some (.int .i64 s0) ∧ w'.cell? ⟨b', off' + m' * 2 + 1, none⟩ = some (.int .i64 s1))) (by kernel_rfl) HQ.out (fun hHeld => ?_)
      refine to_lin (T := sameET) (n := 23) sameES ⟨by kernel_rfl, by kernel_rfl, by kernel_rfl⟩ (by kernel_rfl) (fun hTag => ?_)
      iterate 23 (refine lin_on (v := ?_) rfl (fun _ _ _ h => h) (by rfl) ?_ (by assumption) ?_; rotate_left; (· (intro wq hSw; go_simp; try with_reducible rfl)); try simp only [Act.put, List.setIfInBounds_toArray, List.set_cons_zero, List.set_cons_succ])
      refine lin_done ?_
      go_wp2
      go_ret
      exact ⟨ret_eq HC.out, (Below.refl _ _).drew⟩
theorem nearBy_is (s : Int × Int × Int × Int) (x y n : Int) (z : Bool) (B C : Nat) (w : World) (hB : B < w.heap.size) (hC : C < w.heap.size) (h0 : w.cell? ⟨B, 0, none⟩ = some (.int .i64 x)) (h1 : w.cell? ⟨B, 1, none⟩ = some (.int .i64 y)) (h2 : w.cell? ⟨C, 0, none⟩ = some (.int .i64 n)) (hz : nearV s.1 s.2.1 s.2.2.1 s.2.2.2 x y n = z) :
    Calls Try.prog 43 #[SegV s.1 s.2.1 s.2.2.1 s.2.2.2, .pointer (some ⟨B, 0, none⟩), .pointer (some ⟨C, 0, none⟩)] w fun e w' => e = .returned (.bool z) ∧ Below w.heap.size w w' := by
  obtain ⟨a, b, c, d⟩ := s
  have HV := Lib.hid (Vars.of1 w (SegC a b c d) 29)
  obtain ⟨k0, k1, k2, k3⟩ := HV.out.c40
  have k4 := (HV.out.1.cell (p := ⟨B, 0, none⟩) hB).trans h0
  have k5 := (HV.out.1.cell (p := ⟨B, 1, none⟩) hB).trans h1
  have k6 := (HV.out.1.cell (p := ⟨C, 0, none⟩) hC).trans h2
  have HZ := Lib.hid hz
  clear hz h0 h1 h2
  go_enter Try.func43, Try.ntmps43
  go_wp2_with fail
  refine (isNear_is a b c d x y n z _ HZ.out).mono ?_
  rintro e w1 ⟨rfl, hb1⟩
  go_wp2
  go_ret
  exact ⟨rfl, (HV.out.next hb1).1⟩
set_option maxRecDepth 100000 in
theorem indexNear_is (A : Option Addr) (k : Nat) (l : List (Int × Int × Int × Int)) (x y n : Int) (z : Bool) (B C : Nat) (w : World) (hB : B < w.heap.size) (hC : C < w.heap.size) (h0 : w.cell? ⟨B, 0, none⟩ = some (.int .i64 x)) (h1 : w.cell? ⟨B, 1, none⟩ = some (.int .i64 y)) (h2 : w.cell? ⟨C, 0, none⟩ = some (.int .i64 n)) (hs : SeesE 4 encSegment w w.heap.size A l) (hl : l.length ≤ 1099511627776) (hz : nearAny l (x, y) n = z) :
    Calls Try.prog 48 #[.slice A l.length k, .func (.func 43) #[] #[.pointer (some ⟨B, 0, none⟩), .pointer (some ⟨C, 0, none⟩)]] w fun e w' => (∃ i : Int, e = .returned (.int .i64 i) ∧ decide (0 ≤ i) = z) ∧ Below w.heap.size w w' := by
  have eg : ∀ args w, (callFunc 43 args).run Try.prog w = .ok (.enter 43 args) w := enters_of Try.func43 (by kernel_rfl) rfl
  have HS := Lib.hid hs; have HZ := Lib.hid hz; have H0 := Lib.hid h0; have H1 := Lib.hid h1; have H2 := Lib.hid h2; have HBs := Lib.hid hB; have HCs := Lib.hid hC
  clear hs hz h0 h1 h2 hB hC
  go_enter Try.func48, Try.ntmps48
  go_wp2
  go_loopg [5, 8] l.length (fun g _ s8 wr => ∃ j : Nat, j + g = l.length ∧ s8 = .int .i64 j ∧ Hid (nearAny (l.take j) (x, y) n = false) ∧ Hid (Below w.heap.size w wr))
  case atStart => exact ⟨0, by omega, rfl, Lib.hid (by simp [nearAny]), Lib.hid (Below.refl _ _)⟩
  case round =>
    obtain ⟨j, hg, rfl, HN, HB⟩ := hrel
    by_cases hlt : j < l.length
    · have hlt' : (j : Int) < (l.length : Int) := by omega
      obtain ⟨b, off, s, rfl, hbl, hx, -⟩ := (HS.out.below HB.out).lt hlt
      obtain ⟨t0, t1, t2, t3⟩ := s
      obtain ⟨k0, k1, k2, k3⟩ := cellsSegment (HS.out.below HB.out) hx
      have HX := Lib.hid hx
      have G0 := Lib.hid ((HB.out.cell (p := ⟨B, 0, none⟩) HBs.out).trans H0.out)
      have G1 := Lib.hid ((HB.out.cell (p := ⟨B, 1, none⟩) HBs.out).trans H1.out)
      have G2 := Lib.hid ((HB.out.cell (p := ⟨C, 0, none⟩) HCs.out).trans H2.out)
      have HB2 := Lib.hid (Nat.lt_of_lt_of_le HBs.out HB.out.size)
      have HC2 := Lib.hid (Nat.lt_of_lt_of_le HCs.out HB.out.size)
      clear hx
      obtain ⟨v, hv⟩ : ∃ v, nearV t0 t1 t2 t3 x y n = v := ⟨_, rfl⟩
      have HY := Lib.hid hv
      clear hv
      cases v
      all_goals
        go_wp2_with (go_at_fn 43; refine (nearBy_is (t0, t1, t2, t3) x y n _ B C _ HB2.out HC2.out G0.out G1.out G2.out HY.out).mono ?_; rintro e9 w9 ⟨rfl, hb9⟩)
      · have HB9 := Lib.hid (HB.out.trans (hb9.mono HB.out.size))
        have HNx : Hid (nearAny (l.take (j + 1)) (x, y) n = false) := Lib.hid (by
          have h1 := HN.out
          unfold nearAny at h1 ⊢
          rw [List.take_add_one, HX.out, List.any_append, h1]
          simp [HY.out])
        go_roundg (l.length - (j + 1))
        case measure => omega
        case rel => exact ⟨j + 1, by omega, by go_num, HNx, HB9⟩
      · obtain rfl : true = z := by
          rw [← HZ.out]
          exact (List.any_eq_true.2 ⟨_, List.mem_of_getElem? HX.out, HY.out⟩).symm
        go_ret
        exact ⟨by first | exact ⟨_, rfl, decide_eq_true (by omega)⟩ | (simp; done) | (simp; omega), HB.out.trans (hb9.mono HB.out.size)⟩
    · obtain rfl : j = l.length := by omega
      have hlt' : ¬ (l.length : Int) < (l.length : Int) := by omega
      obtain rfl : false = z := by rw [← HZ.out]; have := HN.out; rw [List.take_length] at this; exact this.symm
      go_wp2
      go_ret
      exact ⟨by first | exact ⟨_, rfl, rfl⟩ | simp, HB.out⟩
set_option maxRecDepth 100000 in
theorem containsNear_is (A : Option Addr) (k : Nat) (l : List (Int × Int × Int × Int)) (x y n : Int) (z : Bool) (B C : Nat) (w : World) (hB : B < w.heap.size) (hC : C < w.heap.size) (h0 : w.cell? ⟨B, 0, none⟩ = some (.int .i64 x)) (h1 : w.cell? ⟨B, 1, none⟩ = some (.int .i64 y)) (h2 : w.cell? ⟨C, 0, none⟩ = some (.int .i64 n)) (hs : SeesE 4 encSegment w w.heap.size A l) (hl : l.length ≤ 1099511627776) (hz : nearAny l (x, y) n = z) :
    Calls Try.prog 42 #[.slice A l.length k, .func (.func 43) #[] #[.pointer (some ⟨B, 0, none⟩), .pointer (some ⟨C, 0, none⟩)]] w fun e w' => e = .returned (.bool z) ∧ Below w.heap.size w w' := by
  go_enter Try.func42, Try.ntmps42
  go_wp2_with fail
  refine (indexNear_is A k l x y n z B C w hB hC h0 h1 h2 hs hl hz).mono ?_
  rintro e9 w1 ⟨⟨i, rfl, hi⟩, hb1⟩
  subst hi
  go_wp2
  go_ret
  exact ⟨rfl, hb1⟩
set_option maxRecDepth 100000 in
theorem isNearOne_is (A : Option Addr) (k : Nat) (l : List (Int × Int × Int × Int)) (x y n : Int) (z : Bool) (w : World) (hs : SeesE 4 encSegment w w.heap.size A l) (hl : l.length ≤ 1099511627776) (hz : nearAny l (x, y) n = z) :
    Calls Try.prog 32 #[.slice A l.length k, PtV x y, .int .i64 n] w fun e w' => e = .returned (.bool z) ∧ Below w.heap.size w w' := by
  have hmf : ∀ (fn : Fn) (first cap : Array Value) (w : World), (Instr.makeFunc fn first cap).run Try.prog w = .ok (.func fn first cap) w := fun _ _ _ _ => rfl
  have HV := Lib.hid (Vars.of2 w #[.int .i64 x, .int .i64 y] #[.int .i64 n] 27 3)
  have HS := Lib.hid (hs.belowAll HV.out.1)
  have HZ := Lib.hid hz
  clear hs hz
  obtain ⟨k0, k1⟩ := HV.out.c20
  have k2 := HV.out.c1 (w.heap.size + 1) 1 rfl rfl
  go_enter Try.func32, Try.ntmps32
  go_wp2_with fail
  refine (containsNear_is A k l x y n z w.heap.size (w.heap.size + 1) _ (by simp <;> omega) (by simp <;> omega) k0 k1 k2 HS.out hl HZ.out).mono ?_
  rintro e9 w1 ⟨rfl, hb1⟩
  go_wp2
  go_ret
  exact ⟨rfl, (HV.out.next hb1).1⟩
set_option maxRecDepth 100000 in
set_option maxHeartbeats 4000000 in
theorem isFaithful_is (A A' : Option Addr) (c c' : Nat) (l l' : List (Int × Int)) (n : Int) (w : World) (hs : SeesE 2 encPoint w w.heap.size A l) (hs' : SeesE 2 encPoint w w.heap.size A' l') (hl : l.length ≤ 1099511627776) (hl' : l'.length ≤ 1099511627776) (z : Bool) (hz : faithV l l' n = z) :
    Calls Try.prog 16 #[.slice A l.length c, .slice A' l'.length c', .int .i64 n] w fun e w' => e = .returned (.bool z) ∧ Below w.heap.size w w' := by
  have HS := Lib.hid hs; have HS' := Lib.hid hs'; clear hs hs'
  have HZ := Lib.hid ((faith_ends l l' n).symm.trans hz); clear hz
  go_enter Try.func16, Try.ntmps16
  cases h1 : isLn l
  · obtain rfl : false = z := by rw [← HZ.out, h1]; rfl
    go_wp2_with fail
    refine (isLine_is A c l _ HS.out hl _ h1).mono ?_
    rintro e w1 ⟨rfl, hb1⟩
    go_wp2
    go_ret
    exact ⟨rfl, hb1⟩
  go_wp2_with fail
  refine (isLine_is A c l _ HS.out hl _ h1).mono ?_
  rintro e w1 ⟨rfl, hb1⟩
  have HB1 := Lib.hid hb1
  have HS1 := Lib.hid (HS.out.belowAll hb1); have HS1' := Lib.hid (HS'.out.belowAll hb1)
  clear hb1
  cases h2 : isLn l'
  · obtain rfl : false = z := by rw [← HZ.out, h1, h2]; rfl
    go_wp2_with fail
    refine (isLine_is A' c' l' _ HS1'.out hl' _ h2).mono ?_
    rintro e w2 ⟨rfl, hb2⟩
    go_wp2
    go_ret
    exact ⟨rfl, HB1.out.trans (hb2.mono HB1.out.size)⟩
  go_wp2_with fail
  refine (isLine_is A' c' l' _ HS1'.out hl' _ h2).mono ?_
  rintro e w2 ⟨rfl, hb2⟩
  have HB2 := Lib.hid (HB1.out.trans (hb2.mono HB1.out.size))
  have HS2 := Lib.hid (HS1.out.belowAll hb2); have HS2' := Lib.hid (HS1'.out.belowAll hb2)
  clear hb2 HB1 HS1 HS1'
  have hn0 : 0 < l.length := by have := (isLn_yes h1).1; omega
  have hn1 : 0 < l'.length := by have := (isLn_yes h2).1; omega
  cases h3 : endsV l l'
  · obtain rfl : false = z := by rw [← HZ.out, h1, h2, h3]; rfl
    go_wp2_with fail
    refine (haveSameEnds_is A A' c c' l l' _ HS2.out HS2'.out hn0 hn1 hl hl' _ h3).mono ?_
    rintro e w3 ⟨rfl, hb3⟩
    go_wp2
    go_ret
    exact ⟨rfl, HB2.out.trans (hb3.mono HB2.out.size)⟩
  have HZ2 : Hid ((l.all fun p => nearAny (sgV l') p n) = z) := Lib.hid (by rw [← HZ.out, h1, h2, h3]; rfl)
  clear HZ
  go_wp2_with fail
  refine (haveSameEnds_is A A' c c' l l' _ HS2.out HS2'.out hn0 hn1 hl hl' _ h3).mono ?_
  rintro e w3 ⟨rfl, hb3⟩
  have HB3 := Lib.hid (HB2.out.trans (hb3.mono HB2.out.size))
  have HS3 := Lib.hid (HS2.out.belowAll hb3); have HS3' := Lib.hid (HS2'.out.belowAll hb3)
  clear hb3 HB2 HS2 HS2' h1 h2 h3
  go_wp2_with fail
  refine (segmentsOf_any A' c' l' _ HS3'.out hl').mono ?_
  rintro e w4 ⟨A4, c4, G, hG, rfl, ho4, hb4⟩
  have HGe := hG
  have HG := Lib.hid (ho4.sees elSegment)
  have HB4 := Lib.hid (HB3.out.trans (hb4.mono HB3.out.size))
  have HS4 := Lib.hid (HS.out.below HB4.out)
  have hGl : G.length ≤ 1099511627776 := by rw [hG.out]; have := sgV_len l'; omega
  replace HZ2 : Hid ((l.all fun p => nearAny G p n) = z) := Lib.hid (by rw [hG.out]; exact HZ2.out)
  clear ho4 hb4 HS3 HS3' HB3 hG HS'
  go_wp2
  go_loopg [9, 28] l.length (fun g _ i wr => ∃ j : Nat, j + g = l.length ∧ i = .int .i64 j ∧ Hid (((l.take j).all fun p => nearAny G p n) = true) ∧ Hid (Below w.heap.size w wr) ∧ Hid (Below w4.heap.size w4 wr))
  case atStart => exact ⟨0, by omega, rfl, Lib.hid (by simp), HB4, Lib.hid (Below.refl _ _)⟩
  case round =>
    obtain ⟨j, hg, rfl, HN, HB, HBr⟩ := hrel
    by_cases hlt : j < l.length
    · have hlt' : (j : Int) < (l.length : Int) := by omega
      obtain ⟨b, off, ⟨t0, t1⟩, rfl, hbl, hx, -⟩ := (HS4.out.below (HBr.out.mono HB4.out.size)).lt hlt
      obtain ⟨k0, k1⟩ := cellsPoint (HS4.out.below (HBr.out.mono HB4.out.size)) hx
      have HX := Lib.hid hx
      have HBa := Lib.hid (HB.out.alloc HB.out.size (.cells #[.int .i64 t0, .int .i64 t1] 27))
      have HBra := Lib.hid (HBr.out.alloc HBr.out.size (.cells #[.int .i64 t0, .int .i64 t1] 27))
      have HGa := Lib.hid ((HG.out.below HBra.out).mono HBra.out.size)
      clear hx
      obtain ⟨y, hy⟩ : ∃ y, nearAny G (t0, t1) n = y := ⟨_, rfl⟩
      have HY := Lib.hid hy
      clear hy
      cases y
      all_goals
        go_wp2_with (go_at_call 32; refine (isNearOne_is A4 c4 G t0 t1 n _ _ HGa.out hGl HY.out).mono ?_; rintro e9 w9 ⟨rfl, hb9⟩)
      · obtain rfl : false = z := by
          rw [← HZ2.out]
          symm
          rw [List.all_eq_false]
          exact ⟨_, List.mem_of_getElem? HX.out, by rw [HY.out]; simp⟩
        go_ret
        exact ⟨rfl, HBa.out.trans (hb9.mono HBa.out.size)⟩
      · have HB9 := Lib.hid (HBa.out.trans (hb9.mono HBa.out.size))
        have HBr9 := Lib.hid (HBra.out.trans (hb9.mono HBra.out.size))
        have HNx : Hid (((l.take (j + 1)).all fun p => nearAny G p n) = true) := Lib.hid (by
          rw [List.take_add_one, HX.out, List.all_append, HN.out]
          simp [HY.out])
        go_roundg (l.length - (j + 1))
        case measure => omega
        case rel => exact ⟨j + 1, by omega, by go_num, HNx, HB9, HBr9⟩
    · obtain rfl : j = l.length := by omega
      have hlt' : ¬ (l.length : Int) < (l.length : Int) := by omega
      obtain rfl : true = z := by rw [← HZ2.out]; have := HN.out; rw [List.take_length] at this; exact this.symm
      go_wp2
      go_ret
      exact ⟨rfl, HB.out⟩
end Go.Proofs.Ytpbmngbigdaklaa
