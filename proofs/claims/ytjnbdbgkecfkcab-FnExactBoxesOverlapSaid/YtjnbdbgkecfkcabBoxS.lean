/- Boxes: BoxesOverlap of the model. -/
import Derived.Test.YtjnbdbgkecfkcabBox
import Derived.Test.YtjnbdbgkecfkcabTabs
import Derived.Deep.RegionHeld3
import Derived.Deep.DeepCutAuto
namespace Go.Proofs.Ytjnbdbgkecfkcab
open Go.ChangeShapes Go.WideShapes Go.ChangeAt Go.RowKit
set_option linter.unusedVariables false

def sBoxesOverlap_isT : List (Nat × Nat × Nat) := [(0, 6, 4), (1, 7, 32), (2, 8, 64), (4, 9, 136), (12, 10, 384), (20, 11, 640), (48, 12, 1024), (64, 13, 2052), (192, 14, 6144), (320, 15, 10240), (64, 16, 2056), (1088, 17, 34816), (2112, 18, 67584), (4672, 19, 149504), (64, 20, 2052), (16448, 21, 526336), (32832, 22, 1050624), (64, 23, 2056), (131136, 24, 4196352), (262208, 25, 8390656), (598080, 26, 18876416), (1056832, 27, 33818624), (2097216, 28, 67110912), (5242880, 29, 134217728), (8388608, 30, 268435460), (25165824, 31, 805306368), (41943040, 32, 1342177280), (8388608, 33, 268435464), (142606336, 34, 4563402752), (276824064, 35, 8858370048), (612368384, 36, 19595788288), (8388608, 37, 268435460), (2155872256, 38, 68987912192), (4303355904, 39, 137707388928), (8388608, 40, 268435464), (17188257792, 41, 550024249344), (34368126976, 42, 1099780063232), (78391541760, 43, 2474169597952), (138521083904, 44, 4432674684928), (274886295552, 45, 8796361457664), (1099511627775, 5, 17592186044416)]
def sBoxesOverlap_isS : List (Nat × Bool) := [(0, true), (1, false), (2, true), (3, true), (4, false), (5, true), (6, true), (7, true), (8, true), (9, true), (10, true), (11, true), (12, true), (14, true), (15, true), (16, true), (17, true), (18, true), (19, true), (13, false), (20, false), (21, true), (22, true), (23, true), (24, true), (25, true), (26, true), (27, true), (28, true), (29, true), (31, true), (32, true), (33, true), (34, true), (35, true), (36, true), (30, false), (37, false), (38, true), (39, true), (40, true)]
set_option maxRecDepth 100000 in
set_option maxHeartbeats 4000000 in
theorem sBoxesOverlap_is (a b c d p q r s : Int) (z : Bool) (w : World) (hz : ovB a b c d p q r s = z) :
    Calls Try.prog 7 #[SegV a b c d, SegV p q r s] w fun e w' => e = .returned (.bool z) ∧ Below w.heap.size w w' := by
  have HB := Lib.hid (Vars.of2 w (SegC a b c d) (SegC p q r s) 29 29)
  have HZ := Lib.hid hz
  clear hz
  go_enter Try.func7, Try.ntmps7
  go_upto_region 1 with fail
  generalize ((w.alloc (.cells (SegC a b c d) 29)).alloc (.cells (SegC p q r s) 29)) = wz at HB ⊢
  have HB := Lib.hid HB.out.drew
  refine wp_region_held_drew (S := fun w' => w'.cell? ⟨w.heap.size, 0, none⟩ = some (.int .i64 a) ∧ w'.cell? ⟨w.heap.size, 1, none⟩ = some (.int .i64 b) ∧ w'.cell? ⟨w.heap.size, 2, none⟩ = some (.int .i64 c) ∧ w'.cell? ⟨w.heap.size, 3, none⟩ = some (.int .i64 d) ∧ w'.cell? ⟨w.heap.size + 1, 0, none⟩ = some (.int .i64 p) ∧ w'.cell? ⟨w.heap.size + 1, 1, none⟩ = some (.int .i64 q) ∧ w'.cell? ⟨w.heap.size + 1, 2, none⟩ = some (.int .i64 r) ∧ w'.cell? ⟨w.heap.size + 1, 3, none⟩ = some (.int .i64 s)) (by kernel_rfl) HB.out.c44 (fun hHeld => ?_)
  refine to_lin (T := sBoxesOverlap_isT) (n := 41) sBoxesOverlap_isS ⟨by kernel_rfl, by kernel_rfl, by kernel_rfl⟩ (by kernel_rfl) (fun hTag => ?_)
  (refine lin_on (v := ?_) rfl (fun _ _ _ h => h) (by rfl) ?_ (by assumption) ?_; rotate_left; (· (intro wq hSw; go_simp; try with_reducible rfl)); try simp only [Act.put, List.setIfInBounds_toArray, List.set_cons_zero, List.set_cons_succ])
  refine lin_call rfl (by rfl) (fun K hK => ?_)
  go_simp
  go_at_call 18
  cases hu : isBx a b c d
  · have HE := Lib.hid (ov_1 (a := a) (b := b) (c := c) (d := d) (p := p) (q := q) (r := r) (s := s) hu)
    refine (sIsBox_is a b c d false _ hu).mono ?_
    rintro e w9 ⟨rfl, hb9⟩
    have HB := Lib.hid (HB.out.next hb9)
    clear hb9
    go_wp2_with fail
    refine hK.out _ _ ?_ (fun hHeld => ?_)
    · exact HB.out.c44
    clear hK K
    try simp only [Act.put, List.setIfInBounds_toArray, List.set_cons_zero, List.set_cons_succ]
    (refine lin_on (v := ?_) rfl (fun _ _ _ h => h) (by rfl) ?_ (by assumption) ?_; rotate_left; (· (intro wq hSw; go_simp; try with_reducible rfl)); try simp only [Act.put, List.setIfInBounds_toArray, List.set_cons_zero, List.set_cons_succ])
    (refine lin_off rfl (fun _ _ _ h => h) (by rfl) (by assumption) ?_; try simp only [Act.put, List.setIfInBounds_toArray, List.set_cons_zero, List.set_cons_succ])
    (refine lin_skip rfl (by rfl) (by assumption) ?_; try simp only [Act.put, List.setIfInBounds_toArray, List.set_cons_zero, List.set_cons_succ])
    iterate 2 (refine lin_on (v := ?_) rfl (fun _ _ _ h => h) (by rfl) ?_ (by assumption) ?_; rotate_left; (· (intro wq hSw; go_simp; try with_reducible rfl)); try simp only [Act.put, List.setIfInBounds_toArray, List.set_cons_zero, List.set_cons_succ])
    iterate 12 (refine lin_off rfl (fun _ _ _ h => h) (by rfl) (by assumption) ?_; try simp only [Act.put, List.setIfInBounds_toArray, List.set_cons_zero, List.set_cons_succ])
    (refine lin_skip rfl (by rfl) (by assumption) ?_; try simp only [Act.put, List.setIfInBounds_toArray, List.set_cons_zero, List.set_cons_succ])
    (refine lin_skip rfl (by rfl) (by assumption) ?_; try simp only [Act.put, List.setIfInBounds_toArray, List.set_cons_zero, List.set_cons_succ])
    (refine lin_off rfl (fun _ _ _ h => h) (by rfl) (by assumption) ?_; try simp only [Act.put, List.setIfInBounds_toArray, List.set_cons_zero, List.set_cons_succ])
    iterate 2 (refine lin_on (v := ?_) rfl (fun _ _ _ h => h) (by rfl) ?_ (by assumption) ?_; rotate_left; (· (intro wq hSw; go_simp; try with_reducible rfl)); try simp only [Act.put, List.setIfInBounds_toArray, List.set_cons_zero, List.set_cons_succ])
    iterate 12 (refine lin_off rfl (fun _ _ _ h => h) (by rfl) (by assumption) ?_; try simp only [Act.put, List.setIfInBounds_toArray, List.set_cons_zero, List.set_cons_succ])
    (refine lin_skip rfl (by rfl) (by assumption) ?_; try simp only [Act.put, List.setIfInBounds_toArray, List.set_cons_zero, List.set_cons_succ])
    (refine lin_skip rfl (by rfl) (by assumption) ?_; try simp only [Act.put, List.setIfInBounds_toArray, List.set_cons_zero, List.set_cons_succ])
    (refine lin_off rfl (fun _ _ _ h => h) (by rfl) (by assumption) ?_; try simp only [Act.put, List.setIfInBounds_toArray, List.set_cons_zero, List.set_cons_succ])
    iterate 2 (refine lin_on (v := ?_) rfl (fun _ _ _ h => h) (by rfl) ?_ (by assumption) ?_; rotate_left; (· (intro wq hSw; go_simp; try with_reducible rfl)); try simp only [Act.put, List.setIfInBounds_toArray, List.set_cons_zero, List.set_cons_succ])
    refine lin_done ?_
    go_wp2
    go_ret
    exact ⟨ret_eq (HE.out.symm.trans HZ.out), HB.out.1⟩
  · refine (sIsBox_is a b c d true _ hu).mono ?_
    rintro e w9 ⟨rfl, hb9⟩
    have HB := Lib.hid (HB.out.next hb9)
    clear hb9
    go_wp2_with fail
    refine hK.out _ _ ?_ (fun hHeld => ?_)
    · exact HB.out.c44
    clear hK K
    try simp only [Act.put, List.setIfInBounds_toArray, List.set_cons_zero, List.set_cons_succ]
    iterate 2 (refine lin_on (v := ?_) rfl (fun _ _ _ h => h) (by rfl) ?_ (by assumption) ?_; rotate_left; (· (intro wq hSw; go_simp; try with_reducible rfl)); try simp only [Act.put, List.setIfInBounds_toArray, List.set_cons_zero, List.set_cons_succ])
    refine lin_call rfl (by rfl) (fun K hK => ?_)
    go_simp
    go_at_call 18
    cases hv : isBx p q r s
    · have HE := Lib.hid (ov_2 (a := a) (b := b) (c := c) (d := d) (p := p) (q := q) (r := r) (s := s) hv)
      refine (sIsBox_is p q r s false _ hv).mono ?_
      rintro e w9 ⟨rfl, hb9⟩
      have HB := Lib.hid (HB.out.next hb9)
      clear hb9
      go_wp2_with fail
      refine hK.out _ _ ?_ (fun hHeld => ?_)
      · exact HB.out.c44
      clear hK K
      try simp only [Act.put, List.setIfInBounds_toArray, List.set_cons_zero, List.set_cons_succ]
      iterate 2 (refine lin_on (v := ?_) rfl (fun _ _ _ h => h) (by rfl) ?_ (by assumption) ?_; rotate_left; (· (intro wq hSw; go_simp; try with_reducible rfl)); try simp only [Act.put, List.setIfInBounds_toArray, List.set_cons_zero, List.set_cons_succ])
      iterate 12 (refine lin_off rfl (fun _ _ _ h => h) (by rfl) (by assumption) ?_; try simp only [Act.put, List.setIfInBounds_toArray, List.set_cons_zero, List.set_cons_succ])
      (refine lin_skip rfl (by rfl) (by assumption) ?_; try simp only [Act.put, List.setIfInBounds_toArray, List.set_cons_zero, List.set_cons_succ])
      (refine lin_skip rfl (by rfl) (by assumption) ?_; try simp only [Act.put, List.setIfInBounds_toArray, List.set_cons_zero, List.set_cons_succ])
      (refine lin_off rfl (fun _ _ _ h => h) (by rfl) (by assumption) ?_; try simp only [Act.put, List.setIfInBounds_toArray, List.set_cons_zero, List.set_cons_succ])
      iterate 2 (refine lin_on (v := ?_) rfl (fun _ _ _ h => h) (by rfl) ?_ (by assumption) ?_; rotate_left; (· (intro wq hSw; go_simp; try with_reducible rfl)); try simp only [Act.put, List.setIfInBounds_toArray, List.set_cons_zero, List.set_cons_succ])
      iterate 12 (refine lin_off rfl (fun _ _ _ h => h) (by rfl) (by assumption) ?_; try simp only [Act.put, List.setIfInBounds_toArray, List.set_cons_zero, List.set_cons_succ])
      (refine lin_skip rfl (by rfl) (by assumption) ?_; try simp only [Act.put, List.setIfInBounds_toArray, List.set_cons_zero, List.set_cons_succ])
      (refine lin_skip rfl (by rfl) (by assumption) ?_; try simp only [Act.put, List.setIfInBounds_toArray, List.set_cons_zero, List.set_cons_succ])
      (refine lin_off rfl (fun _ _ _ h => h) (by rfl) (by assumption) ?_; try simp only [Act.put, List.setIfInBounds_toArray, List.set_cons_zero, List.set_cons_succ])
      iterate 2 (refine lin_on (v := ?_) rfl (fun _ _ _ h => h) (by rfl) ?_ (by assumption) ?_; rotate_left; (· (intro wq hSw; go_simp; try with_reducible rfl)); try simp only [Act.put, List.setIfInBounds_toArray, List.set_cons_zero, List.set_cons_succ])
      refine lin_done ?_
      go_wp2
      go_ret
      exact ⟨ret_eq (HE.out.symm.trans HZ.out), HB.out.1⟩
    · refine (sIsBox_is p q r s true _ hv).mono ?_
      rintro e w9 ⟨rfl, hb9⟩
      have HB := Lib.hid (HB.out.next hb9)
      clear hb9
      go_wp2_with fail
      refine hK.out _ _ ?_ (fun hHeld => ?_)
      · exact HB.out.c44
      clear hK K
      try simp only [Act.put, List.setIfInBounds_toArray, List.set_cons_zero, List.set_cons_succ]
      iterate 14 (refine lin_on (v := ?_) rfl (fun _ _ _ h => h) (by rfl) ?_ (by assumption) ?_; rotate_left; (· (intro wq hSw; go_simp; try with_reducible rfl)); try simp only [Act.put, List.setIfInBounds_toArray, List.set_cons_zero, List.set_cons_succ])
      refine lin_call rfl (by rfl) (fun K hK => ?_)
      go_simp
      go_at_call 19
      refine (smaxB _ _ _).mono ?_
      rintro e w9 ⟨rfl, hb9⟩
      have HB := Lib.hid (HB.out.next hb9)
      clear hb9
      go_wp2_with fail
      refine hK.out _ _ ?_ (fun hHeld => ?_)
      · exact HB.out.c44
      clear hK K
      try simp only [Act.put, List.setIfInBounds_toArray, List.set_cons_zero, List.set_cons_succ]
      refine lin_call rfl (by rfl) (fun K hK => ?_)
      go_simp
      go_at_call 20
      refine (sminB _ _ _).mono ?_
      rintro e w9 ⟨rfl, hb9⟩
      have HB := Lib.hid (HB.out.next hb9)
      clear hb9
      go_wp2_with fail
      by_cases h1 : max a p < min c r
      · have HE := Lib.hid (ov_4 (b := b) (d := d) (q := q) (s := s) hu hv h1)
        refine hK.out _ _ ?_ (fun hHeld => ?_)
        · exact HB.out.c44
        clear hK K
        try simp only [Act.put, List.setIfInBounds_toArray, List.set_cons_zero, List.set_cons_succ]
        iterate 15 (refine lin_on (v := ?_) rfl (fun _ _ _ h => h) (by rfl) ?_ (by assumption) ?_; rotate_left; (· (intro wq hSw; go_simp; try with_reducible rfl)); try simp only [Act.put, List.setIfInBounds_toArray, List.set_cons_zero, List.set_cons_succ])
        refine lin_call rfl (by rfl) (fun K hK => ?_)
        go_simp
        go_at_call 19
        refine (smaxB _ _ _).mono ?_
        rintro e w9 ⟨rfl, hb9⟩
        have HB := Lib.hid (HB.out.next hb9)
        clear hb9
        go_wp2_with fail
        refine hK.out _ _ ?_ (fun hHeld => ?_)
        · exact HB.out.c44
        clear hK K
        try simp only [Act.put, List.setIfInBounds_toArray, List.set_cons_zero, List.set_cons_succ]
        refine lin_call rfl (by rfl) (fun K hK => ?_)
        go_simp
        go_at_call 20
        refine (sminB _ _ _).mono ?_
        rintro e w9 ⟨rfl, hb9⟩
        have HB := Lib.hid (HB.out.next hb9)
        clear hb9
        go_wp2_with fail
        refine hK.out _ _ ?_ (fun hHeld => ?_)
        · exact HB.out.c44
        clear hK K
        try simp only [Act.put, List.setIfInBounds_toArray, List.set_cons_zero, List.set_cons_succ]
        iterate 3 (refine lin_on (v := ?_) rfl (fun _ _ _ h => h) (by rfl) ?_ (by assumption) ?_; rotate_left; (· (intro wq hSw; go_simp; try with_reducible rfl)); try simp only [Act.put, List.setIfInBounds_toArray, List.set_cons_zero, List.set_cons_succ])
        refine lin_done ?_
        go_wp2
        go_ret
        exact ⟨ret_eq (HE.out.symm.trans HZ.out), HB.out.1⟩
      · have HE := Lib.hid (ov_3 (b := b) (d := d) (q := q) (s := s) h1)
        refine hK.out _ _ ?_ (fun hHeld => ?_)
        · exact HB.out.c44
        clear hK K
        try simp only [Act.put, List.setIfInBounds_toArray, List.set_cons_zero, List.set_cons_succ]
        iterate 3 (refine lin_on (v := ?_) rfl (fun _ _ _ h => h) (by rfl) ?_ (by assumption) ?_; rotate_left; (· (intro wq hSw; go_simp; try with_reducible rfl)); try simp only [Act.put, List.setIfInBounds_toArray, List.set_cons_zero, List.set_cons_succ])
        iterate 12 (refine lin_off rfl (fun _ _ _ h => h) (by rfl) (by assumption) ?_; try simp only [Act.put, List.setIfInBounds_toArray, List.set_cons_zero, List.set_cons_succ])
        (refine lin_skip rfl (by rfl) (by assumption) ?_; try simp only [Act.put, List.setIfInBounds_toArray, List.set_cons_zero, List.set_cons_succ])
        (refine lin_skip rfl (by rfl) (by assumption) ?_; try simp only [Act.put, List.setIfInBounds_toArray, List.set_cons_zero, List.set_cons_succ])
        (refine lin_off rfl (fun _ _ _ h => h) (by rfl) (by assumption) ?_; try simp only [Act.put, List.setIfInBounds_toArray, List.set_cons_zero, List.set_cons_succ])
        iterate 2 (refine lin_on (v := ?_) rfl (fun _ _ _ h => h) (by rfl) ?_ (by assumption) ?_; rotate_left; (· (intro wq hSw; go_simp; try with_reducible rfl)); try simp only [Act.put, List.setIfInBounds_toArray, List.set_cons_zero, List.set_cons_succ])
        refine lin_done ?_
        go_wp2
        go_ret
        exact ⟨ret_eq (HE.out.symm.trans HZ.out), HB.out.1⟩
end Go.Proofs.Ytjnbdbgkecfkcab
