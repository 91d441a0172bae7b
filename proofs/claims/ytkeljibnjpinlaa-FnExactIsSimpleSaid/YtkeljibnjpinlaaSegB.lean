/- Segments: the box that two boxes share, in package impl. -/
import Derived.Test.YtkeljibnjpinlaaSegI
namespace Go.Proofs.Ytkeljibnjpinlaa
open Go.ChangeShapes Go.WideShapes Go.ChangeAt Go.RowKit
set_option linter.unusedVariables false

/-- What two boxes share. -/
def shOut (a b c d p q r s : Int) : Value := if min c r < max a p ∨ min d s < max b q then .tuple #[SegV 0 0 0 0, .bool false] else .tuple #[SegV (max a p) (max b q) (min c r) (min d s), .bool true]
theorem shOut_no {a b c d p q r s : Int} (h : min c r < max a p ∨ min d s < max b q) : shOut a b c d p q r s = .tuple #[SegV 0 0 0 0, .bool false] := by unfold shOut; rw [if_pos h]
theorem shOut_yes {a b c d p q r s : Int} (h : ¬ (min c r < max a p ∨ min d s < max b q)) : shOut a b c d p q r s = .tuple #[SegV (max a p) (max b q) (min c r) (min d s), .bool true] := by unfold shOut; rw [if_neg h]
theorem ret_val {u v : Value} (h : u = v) : Ending.returned u = .returned v := by rw [h]
set_option maxHeartbeats 4000000 in
theorem shared_walk (a b c d p q r s : Int) (w : World) (hk : (min c r < max a p ∨ min d s < max b q) ∨ ¬ (min c r < max a p ∨ min d s < max b q)) :
    Calls Try.prog 56 #[SegV a b c d, SegV p q r s] w fun e w' => e = .returned (shOut a b c d p q r s) ∧ Below w.heap.size w w' := by
  have HB := Lib.hid (Vars.of3 w (SegC a b c d) (SegC p q r s) (SegC 0 0 0 0) 69 69 69)
  go_enter Try.func56, Try.ntmps56
  go_upto_region 1 with fail
  generalize (((w.alloc (.cells (SegC a b c d) 69)).alloc (.cells (SegC p q r s) 69)).alloc (.cells (SegC 0 0 0 0) 69)) = wz at HB ⊢
  obtain ⟨k0, k1, k2, k3, k4, k5, k6, k7⟩ := HB.out.c44
  have hl := HB.out.more3
  have HB8 := HB
  go_upto_region 1 with fail
  go_cut [6] (fun s6 wx => Hid (Vars w wx [SegC a b c d, SegC p q r s, SegC 0 0 0 0]) ∧ Hid (Own1 w wx 3 s6 (PtC (max a p) (max b q))))
  case first =>
    go_region_held3 (fun w' => w'.cell? ⟨w.heap.size, 0, none⟩ = some (.int .i64 a) ∧ w'.cell? ⟨w.heap.size, 1, none⟩ = some (.int .i64 b) ∧ w'.cell? ⟨w.heap.size, 2, none⟩ = some (.int .i64 c) ∧ w'.cell? ⟨w.heap.size, 3, none⟩ = some (.int .i64 d) ∧ w'.cell? ⟨w.heap.size + 1, 0, none⟩ = some (.int .i64 p) ∧ w'.cell? ⟨w.heap.size + 1, 1, none⟩ = some (.int .i64 q) ∧ w'.cell? ⟨w.heap.size + 1, 2, none⟩ = some (.int .i64 r) ∧ w'.cell? ⟨w.heap.size + 1, 3, none⟩ = some (.int .i64 s)) (first | with_reducible exact ⟨k0, k1, k2, k3, k4, k5, k6, k7⟩ | with_reducible exact HB9.out.c44 | with_reducible exact (HB9.out.al _).c44 | with_reducible exact HB.out.drew.c44 | with_reducible exact (HB.out.drew.al _).c44 | with_reducible exact (HB.out.al _).drew.c44 | with_reducible exact ((HB9.out.put3 hl9 0 _).put3 hl9 1 _).c44) (first
      | (go_at_call 37; refine (max_bel5 _ _ _).mono ?_; rintro e w9 ⟨rfl, hb9⟩; have HB9 := Lib.hid (Vars.next (by first | with_reducible exact HB9.out | with_reducible exact HB9.out.al _ | with_reducible exact HB.out.drew | with_reducible exact HB.out.drew.al _ | with_reducible exact (HB.out.al _).drew) hb9); (first | have HQ9 := Lib.hid (HQ9.out.next hb9) | (have HQ9 := Lib.hid ((Vars.of1 _ (PtC 0 0) _).next hb9); have hl9 := HB8.out.more3) | (have HQ9 := Lib.hid ((Vars.of1 _ (PtC 0 0) _).drew.next hb9); have hl9 := HB8.out.more3) | skip); have HB8 := HB9; (first | (have f0 := HQ9.out.frz0 0; have f1 := HQ9.out.frz0 1; have q0 := HQ9.out.cel0 0 rfl; have q1 := HQ9.out.cel0 1 rfl; try simp only [drew_size] at f0 f1 q0 q1) | skip)) | fail)
    all_goals
      go_wp2_with fail
      go_meet
      first
        | exact ⟨Lib.hid (HB9.out.al _), Lib.hid ⟨w9, rfl, HB9.out.more3, Vars.of1 _ _ _⟩⟩
        | exact ⟨Lib.hid ((HB9.out.put3 hl9 0 _).put3 hl9 1 _), Lib.hid ⟨_, rfl, hl9, (HQ9.out.set0 0 _).set0 1 _⟩⟩
  case rest =>
  obtain ⟨HB, HO⟩ := hcut
  obtain ⟨w3, rfl, hl3, hv3⟩ := HO.out
  have HP := Lib.hid hv3
  have HP8 := HP
  clear HO hv3 k0 k1 k2 k3 k4 k5 k6 k7 hl HB8
  obtain ⟨k0, k1, k2, k3, k4, k5, k6, k7⟩ := HB.out.c44
  have hl := HB.out.more3
  have HB8 := HB
  go_upto_region 2 with fail
  go_cut [7] (fun s7 wx => Hid (Vars w wx [SegC a b c d, SegC p q r s, SegC 0 0 0 0]) ∧ Hid (Vars w3 wx [PtC (max a p) (max b q)]) ∧ Hid (Own1 w wx 3 s7 (PtC (min c r) (min d s))))
  case first =>
    go_region_held3 (fun w' => w'.cell? ⟨w.heap.size, 0, none⟩ = some (.int .i64 a) ∧ w'.cell? ⟨w.heap.size, 1, none⟩ = some (.int .i64 b) ∧ w'.cell? ⟨w.heap.size, 2, none⟩ = some (.int .i64 c) ∧ w'.cell? ⟨w.heap.size, 3, none⟩ = some (.int .i64 d) ∧ w'.cell? ⟨w.heap.size + 1, 0, none⟩ = some (.int .i64 p) ∧ w'.cell? ⟨w.heap.size + 1, 1, none⟩ = some (.int .i64 q) ∧ w'.cell? ⟨w.heap.size + 1, 2, none⟩ = some (.int .i64 r) ∧ w'.cell? ⟨w.heap.size + 1, 3, none⟩ = some (.int .i64 s)) (first | with_reducible exact ⟨k0, k1, k2, k3, k4, k5, k6, k7⟩ | with_reducible exact HB9.out.c44 | with_reducible exact (HB9.out.al _).c44 | with_reducible exact HB.out.drew.c44 | with_reducible exact (HB.out.drew.al _).c44 | with_reducible exact (HB.out.al _).drew.c44 | with_reducible exact ((HB9.out.put3 hl9 0 _).put3 hl9 1 _).c44) (first
      | (go_at_call 71; refine (min_bel _ _ _).mono ?_; rintro e w9 ⟨rfl, hb9⟩; have HB9 := Lib.hid (Vars.next (by first | with_reducible exact HB9.out | with_reducible exact HB9.out.al _ | with_reducible exact HB.out.drew | with_reducible exact HB.out.drew.al _ | with_reducible exact (HB.out.al _).drew) hb9); have HP9 := Lib.hid (Vars.next (by first | with_reducible exact HP9.out | with_reducible exact HP9.out.al _ | with_reducible exact HP.out.drew | with_reducible exact HP.out.drew.al _ | with_reducible exact (HP.out.al _).drew) hb9); (first | have HQ9 := Lib.hid (HQ9.out.next hb9) | (have HQ9 := Lib.hid ((Vars.of1 _ (PtC 0 0) _).next hb9); have hl9 := HB8.out.more3; have hm9 := HP8.out.more1) | (have HQ9 := Lib.hid ((Vars.of1 _ (PtC 0 0) _).drew.next hb9); have hl9 := HB8.out.more3; have hm9 := HP8.out.more1) | skip); have HB8 := HB9; have HP8 := HP9; (first | (have f0 := HQ9.out.frz0 0; have f1 := HQ9.out.frz0 1; have q0 := HQ9.out.cel0 0 rfl; have q1 := HQ9.out.cel0 1 rfl; try simp only [drew_size] at f0 f1 q0 q1) | skip)) | fail)
    all_goals
      go_wp2_with fail
      go_meet
      first
        | exact ⟨Lib.hid (HB9.out.al _), Lib.hid (HP9.out.al _), Lib.hid ⟨w9, rfl, HB9.out.more3, Vars.of1 _ _ _⟩⟩
        | exact ⟨Lib.hid ((HB9.out.put3 hl9 0 _).put3 hl9 1 _), Lib.hid ((HP9.out.put1 hm9 0 _).put1 hm9 1 _), Lib.hid ⟨_, rfl, hl9, (HQ9.out.set0 0 _).set0 1 _⟩⟩
  case rest =>
  obtain ⟨HB, HP, HO⟩ := hcut
  obtain ⟨w4, rfl, hl4, hv4⟩ := HO.out
  obtain ⟨q0, q1⟩ := HP.out.c20
  obtain ⟨q2, q3⟩ := hv4.c20
  obtain ⟨f0, f1, f2, f3⟩ := HB.out.fr42
  obtain ⟨j0, j1, j2, j3⟩ := HB.out.c42
  clear hv4 k0 k1 k2 k3 k4 k5 k6 k7 hl HB8 HP8
  rcases hk with hk | hk
  · have HK := Lib.hid (shOut_no hk)
    rcases (by omega : min c r < max a p ∨ (¬ min c r < max a p ∧ min d s < max b q)) with h1 | ⟨h1, h2⟩
    all_goals
      clear hk
      go_wp2
      refine bodyPost_ret (v := .tuple #[SegV 0 0 0 0, .bool false]) (by simp [results, Try.results56, go_sem, j0, j1, j2, j3]) rfl ?_
      exact ⟨ret_val HK.out.symm, HB.out.set40 (by omega) _ _ _ _⟩
  · have h1 : ¬ min c r < max a p := fun h => hk (.inl h)
    have h2 : ¬ min d s < max b q := fun h => hk (.inr h)
    have HK := Lib.hid (shOut_yes hk)
    clear hk
    go_wp2
    refine bodyPost_ret (v := .tuple #[SegV (max a p) (max b q) (min c r) (min d s), .bool true]) (by simp [results, Try.results56, go_sem, j0, j1, j2, j3]) rfl ?_
    exact ⟨ret_val HK.out.symm, HB.out.set40 (by omega) _ _ _ _⟩
theorem shared_no (a b c d p q r s : Int) (w : World) (hk : min c r < max a p ∨ min d s < max b q) :
    Calls Try.prog 56 #[SegV a b c d, SegV p q r s] w fun e w' => e = .returned (.tuple #[SegV 0 0 0 0, .bool false]) ∧ Below w.heap.size w w' :=
  (shared_walk a b c d p q r s w (.inl hk)).mono fun e w' h => ⟨by rw [← shOut_no hk]; exact h.1, h.2⟩
theorem shared_yes (a b c d p q r s : Int) (w : World) (hk : ¬ (min c r < max a p ∨ min d s < max b q)) :
    Calls Try.prog 56 #[SegV a b c d, SegV p q r s] w fun e w' => e = .returned (.tuple #[SegV (max a p) (max b q) (min c r) (min d s), .bool true]) ∧ Below w.heap.size w w' :=
  (shared_walk a b c d p q r s w (.inr hk)).mono fun e w' h => ⟨by rw [← shOut_yes hk]; exact h.1, h.2⟩
end Go.Proofs.Ytkeljibnjpinlaa
