/- Segments: the functions of chapter 5 in package impl. -/
import Derived.Test.YtkeljibnjpinlaaSeg
import Derived.Deep.RegionHeld3
import Derived.Deep.DeepCutAuto
namespace Go.Proofs.Ytkeljibnjpinlaa
open Go.ChangeShapes Go.WideShapes Go.ChangeAt Go.RowKit
set_option linter.unusedVariables false

theorem drew_size (w : World) : w.drew.heap.size = w.heap.size := rfl
theorem min_bel (a b : Int) (w : World) :
    Calls Try.prog 71 #[.int .i64 a, .int .i64 b] w fun e w' => e = .returned (.int .i64 (min a b)) ∧ Below w.heap.size w w' := by
  rw [← ext_min]
  go_enter Try.func71, Try.ntmps71
  go_wp2_with (go_at_call 55; refine (ext_any _ _ b _ _ (by simp [go_sem])).mono ?_; rintro e w' ⟨rfl, rfl⟩)
  go_ret
  exact ⟨rfl, by repeat (first | exact Below.refl _ _ | apply Below.drew | (refine Below.alloc ?_ (Nat.le_refl _) _))⟩
theorem max_bel5 (a b : Int) (w : World) :
    Calls Try.prog 37 #[.int .i64 a, .int .i64 b] w fun e w' => e = .returned (.int .i64 (max a b)) ∧ Below w.heap.size w w' := by
  rw [← ext_max]
  go_enter Try.func37, Try.ntmps37
  go_wp2_with (go_at_call 55; refine (ext_any _ _ b _ _ (by simp [go_sem])).mono ?_; rintro e w' ⟨rfl, rfl⟩)
  go_ret
  exact ⟨rfl, by repeat (first | exact Below.refl _ _ | apply Below.drew | (refine Below.alloc ?_ (Nat.le_refl _) _))⟩
/-- A valid segment's value with its box beside it. -/
abbrev BoxedC (a b c d : Int) : Array Value := #[.int .i64 a, .int .i64 b, .int .i64 c, .int .i64 d, .int .i64 (min a c), .int .i64 (min b d), .int .i64 (max a c), .int .i64 (max b d)]
theorem outline_no (a b c d : Int) (w : World) (hs : isS a b c d = false) :
    Calls Try.prog 70 #[SegV a b c d] w fun e w' => e = .returned (.iface 98 (.agg #[])) ∧ Below w.heap.size w w' := by
  go_enter Try.func70, Try.ntmps70
  go_wp2_with fail
  refine (arePoints_any _ _ [(a, b), (c, d)] _ (seesP_new _ _ _ _ _ _ (by rfl) (by simp) (by simp)) (by simp)).mono ?_
  rintro e w1 ⟨rfl, hb1⟩
  have HB := Lib.hid (((Vars.of1 w (SegC a b c d) 38).al _).next hb1)
  clear hb1
  obtain ⟨k0, k1, k2, k3⟩ := HB.out.c4 w.heap.size 0 rfl rfl
  have he : allP [(a, b), (c, d)] = isP2 a b c d := by simp [allP, isP2]
  cases h : isP2 a b c d
  · have hx : allP [(a, b), (c, d)] = false := he.trans h
    clear he h
    go_wp2
    go_ret
    exact ⟨rfl, HB.out.1⟩
  · have hx : allP [(a, b), (c, d)] = true := he.trans h
    have heq : a = c ∧ b = d := by simpa [isS, h] using hs
    obtain ⟨rfl, rfl⟩ := heq
    clear he h
    go_wp2
    go_ret
    exact ⟨rfl, HB.out.1⟩
theorem isS_p2 {a b c d : Int} (h : isS a b c d = true) : isP2 a b c d = true := by
  simp only [isS, Bool.and_eq_true] at h; exact h.1
/-- A variable of the call's own behind some others: where it lies, and what it holds. -/
def Own1 (w wx : World) (n : Nat) (s : Value) (cs : Array Value) : Prop :=
  ∃ w3 : World, s = .pointer (some ⟨w3.heap.size, 0, none⟩) ∧ w.heap.size + n ≤ w3.heap.size ∧ Vars w3 wx [cs]
set_option maxHeartbeats 2000000 in
theorem outline_yes (a b c d : Int) (w : World) (hs : isS a b c d = true) :
    Calls Try.prog 70 #[SegV a b c d] w fun e w' => e = .returned (.iface 71 (.agg (BoxedC a b c d))) ∧ Below w.heap.size w w' := by
  obtain ⟨hA, hC, hne⟩ := isS_at hs
  have h := isS_p2 hs
  clear hs
  go_enter Try.func70, Try.ntmps70
  go_upto_region 1 with fail
  go_cut [18] (fun s18 wx => s18 = .bool false ∧ Hid (Vars w wx [SegC a b c d]))
  case first =>
    go_wp2_with fail
    refine (arePoints_any _ _ [(a, b), (c, d)] _ (seesP_new _ _ _ _ _ _ (by rfl) (by simp) (by simp)) (by simp)).mono ?_
    rintro e w1 ⟨rfl, hb1⟩
    have HB := Lib.hid (((Vars.of1 w (SegC a b c d) 38).al _).next hb1)
    clear hb1
    obtain ⟨k0, k1, k2, k3⟩ := HB.out.c4 w.heap.size 0 rfl rfl
    have he : allP [(a, b), (c, d)] = isP2 a b c d := by simp [allP, isP2]
    have hx : allP [(a, b), (c, d)] = true := he.trans h
    clear he h
    by_cases hac : a = c
    · have hbd : ¬ b = d := by omega
      subst hac
      go_wp2
      go_meet
      exact ⟨rfl, HB⟩
    · go_wp2
      go_meet
      exact ⟨rfl, HB⟩
  case rest =>
  obtain ⟨rfl, HB⟩ := hcut
  obtain ⟨k0, k1, k2, k3⟩ := HB.out.c4 w.heap.size 0 rfl rfl
  clear hne h
  have hl := HB.out.more1
  have HB8 := HB
  go_upto_region 3 with fail
  go_cut [3] (fun s3 wx => Hid (Vars w wx [SegC a b c d]) ∧ Hid (Own1 w wx 1 s3 (PtC (min a c) (min b d))))
  case first =>
    go_region_held3 (fun w' => w'.cell? ⟨w.heap.size, 0, none⟩ = some (.int .i64 a) ∧ w'.cell? ⟨w.heap.size, 1, none⟩ = some (.int .i64 b) ∧ w'.cell? ⟨w.heap.size, 2, none⟩ = some (.int .i64 c) ∧ w'.cell? ⟨w.heap.size, 3, none⟩ = some (.int .i64 d)) (first | with_reducible exact ⟨k0, k1, k2, k3⟩ | with_reducible exact HB9.out.c40 | with_reducible exact (HB9.out.al _).c40 | with_reducible exact HB.out.drew.c40 | with_reducible exact (HB.out.drew.al _).c40 | with_reducible exact (HB.out.al _).drew.c40 | with_reducible exact ((HB9.out.put1 hl9 0 _).put1 hl9 1 _).c40) (first
      | (go_at_call 71; refine (min_bel _ _ _).mono ?_; rintro e w9 ⟨rfl, hb9⟩; have HB9 := Lib.hid (Vars.next (by first | with_reducible exact HB9.out | with_reducible exact HB9.out.al _ | with_reducible exact HB.out.drew | with_reducible exact HB.out.drew.al _ | with_reducible exact (HB.out.al _).drew) hb9); (first | have HQ9 := Lib.hid (HQ9.out.next hb9) | (have HQ9 := Lib.hid ((Vars.of1 _ (PtC 0 0) _).next hb9); have hl9 := HB8.out.more1) | (have HQ9 := Lib.hid ((Vars.of1 _ (PtC 0 0) _).drew.next hb9); have hl9 := HB8.out.more1) | skip); have HB8 := HB9; (first | (have f0 := HQ9.out.frz0 0; have f1 := HQ9.out.frz0 1; have q0 := HQ9.out.cel0 0 rfl; have q1 := HQ9.out.cel0 1 rfl; try simp only [drew_size] at f0 f1 q0 q1) | skip)) | fail)
    all_goals
      go_wp2_with fail
      go_meet
      first
        | exact ⟨Lib.hid (HB9.out.al _), Lib.hid ⟨w9, rfl, HB9.out.more1, Vars.of1 _ _ _⟩⟩
        | exact ⟨Lib.hid ((HB9.out.put1 hl9 0 _).put1 hl9 1 _), Lib.hid ⟨_, rfl, hl9, (HQ9.out.set0 0 _).set0 1 _⟩⟩
  case rest =>
  obtain ⟨HB, HO⟩ := hcut
  obtain ⟨w3, rfl, hl3, hv3⟩ := HO.out
  have HP := Lib.hid hv3
  have HP8 := HP
  clear HO hv3 k0 k1 k2 k3 hl HB8
  obtain ⟨k0, k1, k2, k3⟩ := HB.out.c40
  have hl := HB.out.more1
  have HB8 := HB
  go_upto_region 4 with fail
  go_cut [4] (fun s4 wx => Hid (Vars w wx [SegC a b c d]) ∧ Hid (Vars w3 wx [PtC (min a c) (min b d)]) ∧ Hid (Own1 w wx 1 s4 (PtC (max a c) (max b d))))
  case first =>
    go_region_held3 (fun w' => w'.cell? ⟨w.heap.size, 0, none⟩ = some (.int .i64 a) ∧ w'.cell? ⟨w.heap.size, 1, none⟩ = some (.int .i64 b) ∧ w'.cell? ⟨w.heap.size, 2, none⟩ = some (.int .i64 c) ∧ w'.cell? ⟨w.heap.size, 3, none⟩ = some (.int .i64 d)) (first | with_reducible exact ⟨k0, k1, k2, k3⟩ | with_reducible exact HB9.out.c40 | with_reducible exact (HB9.out.al _).c40 | with_reducible exact HB.out.drew.c40 | with_reducible exact (HB.out.drew.al _).c40 | with_reducible exact (HB.out.al _).drew.c40 | with_reducible exact ((HB9.out.put1 hl9 0 _).put1 hl9 1 _).c40) (first
      | (go_at_call 37; refine (max_bel5 _ _ _).mono ?_; rintro e w9 ⟨rfl, hb9⟩; have HB9 := Lib.hid (Vars.next (by first | with_reducible exact HB9.out | with_reducible exact HB9.out.al _ | with_reducible exact HB.out.drew | with_reducible exact HB.out.drew.al _ | with_reducible exact (HB.out.al _).drew) hb9); have HP9 := Lib.hid (Vars.next (by first | with_reducible exact HP9.out | with_reducible exact HP9.out.al _ | with_reducible exact HP.out.drew | with_reducible exact HP.out.drew.al _ | with_reducible exact (HP.out.al _).drew) hb9); (first | have HQ9 := Lib.hid (HQ9.out.next hb9) | (have HQ9 := Lib.hid ((Vars.of1 _ (PtC 0 0) _).next hb9); have hl9 := HB8.out.more1; have hm9 := HP8.out.more1) | (have HQ9 := Lib.hid ((Vars.of1 _ (PtC 0 0) _).drew.next hb9); have hl9 := HB8.out.more1; have hm9 := HP8.out.more1) | skip); have HB8 := HB9; have HP8 := HP9; (first | (have f0 := HQ9.out.frz0 0; have f1 := HQ9.out.frz0 1; have q0 := HQ9.out.cel0 0 rfl; have q1 := HQ9.out.cel0 1 rfl; try simp only [drew_size] at f0 f1 q0 q1) | skip)) | fail)
    all_goals
      go_wp2_with fail
      go_meet
      first
        | exact ⟨Lib.hid (HB9.out.al _), Lib.hid (HP9.out.al _), Lib.hid ⟨w9, rfl, HB9.out.more1, Vars.of1 _ _ _⟩⟩
        | exact ⟨Lib.hid ((HB9.out.put1 hl9 0 _).put1 hl9 1 _), Lib.hid ((HP9.out.put1 hm9 0 _).put1 hm9 1 _), Lib.hid ⟨_, rfl, hl9, (HQ9.out.set0 0 _).set0 1 _⟩⟩
  case rest =>
  obtain ⟨HB, HP, HO⟩ := hcut
  obtain ⟨w4, rfl, hl4, hv4⟩ := HO.out
  obtain ⟨k0, k1, k2, k3⟩ := HB.out.c40
  obtain ⟨q0, q1⟩ := HP.out.c20
  obtain ⟨q2, q3⟩ := hv4.c20
  clear hv4
  go_wp2
  go_ret
  exact ⟨rfl, HB.out.1⟩
end Go.Proofs.Ytkeljibnjpinlaa
