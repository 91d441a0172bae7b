/- Segments: how two segments meet, in the model. -/
import Derived.Test.YtbnjaaegbmhopaaGreatDoorSegS3
import Derived.Test.YtbnjaaegbmhopaaGreatDoorTabs
namespace Go.Proofs.YtbnjaaegbmhopaaGreatDoor
open Go.ChangeShapes Go.WideShapes Go.ChangeAt Go.RowKit
set_option linter.unusedVariables false

def hm3T : List (Nat × Nat × Nat) := [(0, 14, 4), (1, 15, 8192), (2, 16, 16384), (0, 17, 4), (8, 18, 65536), (16, 19, 131072), (36, 20, 294912), (0, 21, 8), (128, 22, 1048576), (256, 23, 2097152), (0, 24, 8), (1024, 25, 8388608), (2048, 26, 16777216), (4672, 27, 37748736), (8256, 28, 67633152), (24576, 29, 134217728), (32768, 30, 268435464), (98304, 31, 805306368), (163840, 32, 1342177280), (32768, 33, 268435464), (557056, 34, 4563402752), (1081344, 35, 8858370048), (2392064, 36, 19595788288), (32768, 37, 268435460), (8421376, 38, 68987912192), (16809984, 39, 137707388928), (32768, 40, 268435460), (67141632, 41, 550024249344), (134250496, 42, 1099780063232), (306216960, 43, 2474169597952), (541097984, 44, 4432674684928), (1073774592, 45, 8796361457664), (2684354560, 46, 17592186044416), (4294967296, 47, 35184372088836), (12884901888, 48, 105553116266496), (21474836480, 49, 175921860444160), (4294967296, 50, 35184372088836), (73014444032, 51, 598134325510144), (141733920768, 52, 1161084278931456), (313532612608, 53, 2568459162484736), (4294967296, 54, 35184372088840), (1103806595072, 55, 9042383626829824), (2203318222848, 56, 18049582881570816), (4294967296, 57, 35184372088840), (8800387989504, 58, 72092778410016768), (17596481011712, 59, 144150372447944704), (40136469381120, 60, 324294357542764544), (70922794958848, 61, 580999536302882816), (140741783322624, 62, 1152956688978935808), (351843720888320, 63, 2305843009213693952), (562949953421312, 64, 4611686018427387912), (1688849860263936, 65, 13835058055282163712), (2814749767106560, 66, 23058430092136939520), (562949953421312, 67, 4611686018427387912), (9570149208162304, 68, 78398662313265594368), (18577348462903296, 69, 152185638608103800832), (41095346599755776, 70, 336653079345199316992), (562949953421312, 71, 4611686018427387908), (144678138029277184, 72, 1185203306735838691328), (288793326105133056, 73, 2365794927453249994752), (562949953421312, 74, 4611686018427387908), (1153484454560268288, 75, 9449344651757717815296), (2306405959167115264, 76, 18894077617497008242688), (5260767314722160640, 77, 42505910031845234311168), (9295992580846125056, 78, 76152771222291456458752), (18447307023662972928, 79, 151120339137847074226176)]
def hm3S : List (Nat × Bool) := [(0, true), (1, true), (2, true), (3, true), (4, true), (5, true), (7, true), (8, true), (9, true), (10, true), (11, true), (12, true), (6, false), (13, false), (14, true), (15, true), (16, true), (17, true), (18, true), (19, true), (20, true), (21, true), (23, true), (24, true), (25, true), (26, true), (27, true), (28, true), (22, false), (29, false), (30, true), (31, true), (32, true), (33, true), (34, true), (35, true), (36, true), (37, true), (38, true), (40, true), (41, true), (42, true), (43, true), (44, true), (45, true), (39, false), (46, false), (47, true), (48, true), (49, true), (50, true), (51, true), (52, true), (53, true), (54, true), (55, true), (57, true), (58, true), (59, true), (60, true), (61, true), (62, true), (56, false), (63, false), (64, true), (65, true)]
def hm7T : List (Nat × Nat × Nat) := [(0, 85, 4), (1, 86, 19342813113834066795298816), (0, 87, 4), (4, 88, 77371252455336267181195264), (0, 89, 8), (16, 90, 309485009821345068724781056), (42, 91, 812398150781030805402550272), (0, 92, 4), (128, 93, 2475880078570760549798248448), (0, 94, 4), (512, 95, 9903520314283042199192993792), (0, 96, 8), (2048, 97, 39614081257132168796771975168), (5440, 98, 103986963299971943091526434816), (8256, 99, 159694265067814055461987024896), (16384, 100, 316912650057057350374175801344), (40960, 101, 633825300114114700748351602688), (65536, 102, 1267650600228229401496703205384), (196608, 103, 3802951800684688204490109616128), (65536, 104, 1267650600228229401496703205384), (589824, 105, 11408855402054064613470328848384), (65536, 106, 1267650600228229401496703205380), (2162688, 107, 41832469807531570249391205777408), (5570560, 108, 107750301019399499127219772456960), (65536, 109, 1267650600228229401496703205384), (16842752, 110, 325786204258654956184652723781632), (65536, 111, 1267650600228229401496703205384), (67174400, 112, 1299341865233935136534120785510400), (65536, 113, 1267650600228229401496703205380), (268500992, 114, 5193564509135055857931993032425472), (713097216, 115, 13631046904254150754294049567408128), (1082195968, 116, 20932714361568752106915060030373888), (2147549184, 117, 41539642518878849257645467336966144), (4295032832, 118, 83078017387157470285889437970726912)]
def hm7S : List (Nat × Bool) := [(0, true), (1, true), (2, true), (3, true), (4, true), (5, true), (7, true), (8, true), (9, true), (10, true), (11, true), (12, true), (6, false), (13, false), (14, true), (15, true), (16, true), (17, true), (18, true), (19, true), (20, true), (21, true), (22, true), (24, true), (25, true), (26, true), (27, true), (28, true), (29, true), (23, false), (30, false), (31, true), (32, true), (33, true)]
theorem smin_mm (a b : Int) (w : World) : Calls Tryz.prog 138 #[.int .i64 a, .int .i64 b] w fun e w' => e = .returned (.int .i64 (min a b)) ∧ w = w' := by rw [← ext_min]; exact smin_any a b w
theorem smax_mm (a b : Int) (w : World) : Calls Tryz.prog 112 #[.int .i64 a, .int .i64 b] w fun e w' => e = .returned (.int .i64 (max a b)) ∧ w = w' := by rw [← ext_max]; exact smax_any a b w
theorem l5Shared_is (a b c d p q r s : Int) (n : Nat) (w : World) (h : (shL a b c d p q r s).length = n) :
    Calls Tryz.prog 139 #[SegV a b c d, SegV p q r s] w fun e w' => e = .returned (.int .i64 (n : Int)) ∧ Below w.heap.size w w' := by
  subst h; exact l5Shared_any a b c d p q r s w
theorem sSideOf_is (a b c d x y z : Int) (w : World) (h : sideV a b c d x y = z) :
    Calls Tryz.prog 140 #[PtV a b, PtV c d, PtV x y] w fun e w' => e = .returned (.int .i64 z) ∧ Below w.heap.size w w' := by
  subst h; exact sSideOf_any a b c d x y w
theorem sides_mul {u v : Int} (hu : u = 1 ∨ u = 0 ∨ u = -1) (hv : v = 1 ∨ v = 0 ∨ v = -1) : IntKind.i64.wrap (u * v) = u * v := by
  rcases hu with rfl | rfl | rfl <;> rcases hv with rfl | rfl | rfl <;> decide
theorem sHowMeet_no (a b c d p q r s : Int) (w : World) (h : ¬ (isS a b c d = true ∧ isS p q r s = true)) :
    Calls Tryz.prog 113 #[SegV a b c d, SegV p q r s] w fun e w' => e = .returned (.int .i64 (howV a b c d p q r s)) ∧ Below w.heap.size w w' := by
  have HE := Lib.hid (how_no h)
  have HB := Lib.hid (Vars.of2 w (SegC a b c d) (SegC p q r s) 78 78)
  go_enter Tryz.func113, Tryz.ntmps113
  cases hs : isS a b c d
  · go_wp2_with fail
    refine (sIsSegment_is a b c d _ _ hs).mono ?_
    rintro e w1 ⟨rfl, hb1⟩
    have HB1 := Lib.hid (HB.out.next hb1)
    clear hb1
    go_wp2
    go_ret
    exact ⟨ret_int HE.out.symm, HB1.out.1⟩
  · have ht : isS p q r s = false := by cases ht : isS p q r s with
      | false => rfl
      | true => exact absurd ⟨hs, ht⟩ h
    go_wp2_with fail
    refine (sIsSegment_is a b c d _ _ hs).mono ?_
    rintro e w1 ⟨rfl, hb1⟩
    have HB1 := Lib.hid (HB.out.next hb1)
    clear hb1 HB
    obtain ⟨k0, k1, k2, k3, k4, k5, k6, k7⟩ := HB1.out.c44
    go_wp2_with fail
    refine (sIsSegment_is p q r s _ _ ht).mono ?_
    rintro e w2 ⟨rfl, hb2⟩
    have HB2 := Lib.hid (HB1.out.next hb2)
    clear hb2
    go_wp2
    go_ret
    exact ⟨ret_int HE.out.symm, HB2.out.1⟩
set_option maxRecDepth 100000 in
set_option maxHeartbeats 4000000 in
theorem sHowMeet_apart1 (a b c d p q r s : Int) (w : World) (hs : isS a b c d = true) (ht : isS p q r s = true) (hx : Apart a b c d p q r s) (h1 : max a c < min p r) :
    Calls Tryz.prog 113 #[SegV a b c d, SegV p q r s] w fun e w' => e = .returned (.int .i64 (howV a b c d p q r s)) ∧ Below w.heap.size w w' := by
  obtain ⟨z, hz⟩ : ∃ z, howV a b c d p q r s = z := ⟨_, rfl⟩
  rw [hz]
  have HE := Lib.hid (hz.symm.trans (how_apart hx))
  clear hx hz
  have HB := Lib.hid (Vars.of2 w (SegC a b c d) (SegC p q r s) 78 78)
  go_enter Tryz.func113, Tryz.ntmps113
  go_wp2_with fail
  refine (sIsSegment_is a b c d _ _ hs).mono ?_
  rintro e w1 ⟨rfl, hb1⟩
  have HB1 := Lib.hid (HB.out.next hb1)
  clear hb1 HB
  obtain ⟨k0, k1, k2, k3, k4, k5, k6, k7⟩ := HB1.out.c44
  go_wp2_with fail
  refine (sIsSegment_is p q r s _ _ ht).mono ?_
  rintro e w2 ⟨rfl, hb2⟩
  have HB2 := Lib.hid (HB1.out.next hb2)
  clear hb2 HB1 k0 k1 k2 k3 k4 k5 k6 k7 hs ht
  obtain ⟨k0, k1, k2, k3, k4, k5, k6, k7⟩ := HB2.out.c44
  go_upto_region 3 with fail
  go_cut [78] (fun s78 wx => s78 = .bool true ∧ Hid (Vars w wx [SegC a b c d, SegC p q r s]))
  case first =>
    have HB2 := Lib.hid HB2.out.drew
    refine wp_region_held_drew (S := (fun w' => w'.cell? ⟨w.heap.size, 0, none⟩ = some (.int .i64 a) ∧ w'.cell? ⟨w.heap.size, 1, none⟩ = some (.int .i64 b) ∧ w'.cell? ⟨w.heap.size, 2, none⟩ = some (.int .i64 c) ∧ w'.cell? ⟨w.heap.size, 3, none⟩ = some (.int .i64 d) ∧ w'.cell? ⟨w.heap.size + 1, 0, none⟩ = some (.int .i64 p) ∧ w'.cell? ⟨w.heap.size + 1, 1, none⟩ = some (.int .i64 q) ∧ w'.cell? ⟨w.heap.size + 1, 2, none⟩ = some (.int .i64 r) ∧ w'.cell? ⟨w.heap.size + 1, 3, none⟩ = some (.int .i64 s))) (by kernel_rfl) HB2.out.c44 (fun hHeld => ?_)
    have d1 : decide (max a c < min p r) = true := decide_eq_true (by omega)
    refine to_lin (T := hm3T) (n := 66) hm3S ⟨by kernel_rfl, by kernel_rfl, by kernel_rfl⟩ (by kernel_rfl) (fun hTag => ?_)
    iterate 12 (refine lin_on (v := ?_) rfl (fun _ _ _ h => h) (by rfl) ?_ (by assumption) ?_; rotate_left; (· (intro wq hSw; go_simp; try with_reducible rfl)); try simp only [Act.put, List.setIfInBounds_toArray, List.set_cons_zero, List.set_cons_succ])
    refine lin_call rfl (by rfl) (fun K hK => ?_)
    go_simp
    go_at_call 112
    refine (smax_mm _ _ _).mono ?_
    rintro e w' ⟨rfl, rfl⟩
    go_wp2_with fail
    refine hK.out _ _ ?_ (fun hHeld => ?_)
    · exact hHeld
    clear hK K
    try simp only [Act.put, List.setIfInBounds_toArray, List.set_cons_zero, List.set_cons_succ]
    refine lin_call rfl (by rfl) (fun K hK => ?_)
    go_simp
    go_at_call 138
    refine (smin_mm _ _ _).mono ?_
    rintro e w' ⟨rfl, rfl⟩
    go_wp2_with fail
    refine hK.out _ _ ?_ (fun hHeld => ?_)
    · exact hHeld
    clear hK K
    try simp only [Act.put, List.setIfInBounds_toArray, List.set_cons_zero, List.set_cons_succ]
    iterate 2 (refine lin_on (v := ?_) rfl (fun _ _ _ h => h) (by rfl) ?_ (by assumption) ?_; rotate_left; (· (intro wq hSw; go_simp; try with_reducible rfl)); try simp only [Act.put, List.setIfInBounds_toArray, List.set_cons_zero, List.set_cons_succ])
    iterate 12 (refine lin_off rfl (fun _ _ _ h => h) (by rfl) (by assumption) ?_; try simp only [Act.put, List.setIfInBounds_toArray, List.set_cons_zero, List.set_cons_succ])
    (refine lin_skip rfl (by rfl) (by assumption) ?_; try simp only [Act.put, List.setIfInBounds_toArray, List.set_cons_zero, List.set_cons_succ])
    (refine lin_skip rfl (by rfl) (by assumption) ?_; try simp only [Act.put, List.setIfInBounds_toArray, List.set_cons_zero, List.set_cons_succ])
    (refine lin_off rfl (fun _ _ _ h => h) (by rfl) (by assumption) ?_; try simp only [Act.put, List.setIfInBounds_toArray, List.set_cons_zero, List.set_cons_succ])
    iterate 2 (refine lin_on (v := ?_) rfl (fun _ _ _ h => h) (by rfl) ?_ (by assumption) ?_; rotate_left; (· (intro wq hSw; go_simp; try with_reducible rfl)); try simp only [Act.put, List.setIfInBounds_toArray, List.set_cons_zero, List.set_cons_succ])
    iterate 12 (refine lin_off rfl (fun _ _ _ h => h) (by rfl) (by assumption) ?_; try simp only [Act.put, List.setIfInBounds_toArray, List.set_cons_zero, List.set_cons_succ])
    (refine lin_skip rfl (by rfl) (by assumption) ?_; try simp only [Act.put, List.setIfInBounds_toArray, List.set_cons_zero, List.set_cons_succ])
    (refine lin_skip rfl (by rfl) (by assumption) ?_; try simp only [Act.put, List.setIfInBounds_toArray, List.set_cons_zero, List.set_cons_succ])
    (refine lin_off rfl (fun _ _ _ h => h) (by rfl) (by assumption) ?_; try simp only [Act.put, List.setIfInBounds_toArray, List.set_cons_zero, List.set_cons_succ])
    iterate 2 (refine lin_on (v := ?_) rfl (fun _ _ _ h => h) (by rfl) ?_ (by assumption) ?_; rotate_left; (· (intro wq hSw; go_simp; try with_reducible rfl)); try simp only [Act.put, List.setIfInBounds_toArray, List.set_cons_zero, List.set_cons_succ])
    iterate 12 (refine lin_off rfl (fun _ _ _ h => h) (by rfl) (by assumption) ?_; try simp only [Act.put, List.setIfInBounds_toArray, List.set_cons_zero, List.set_cons_succ])
    (refine lin_skip rfl (by rfl) (by assumption) ?_; try simp only [Act.put, List.setIfInBounds_toArray, List.set_cons_zero, List.set_cons_succ])
    (refine lin_skip rfl (by rfl) (by assumption) ?_; try simp only [Act.put, List.setIfInBounds_toArray, List.set_cons_zero, List.set_cons_succ])
    (refine lin_off rfl (fun _ _ _ h => h) (by rfl) (by assumption) ?_; try simp only [Act.put, List.setIfInBounds_toArray, List.set_cons_zero, List.set_cons_succ])
    (refine lin_on (v := ?_) rfl (fun _ _ _ h => h) (by rfl) ?_ (by assumption) ?_; rotate_left; (· (intro wq hSw; go_simp; try with_reducible rfl)); try simp only [Act.put, List.setIfInBounds_toArray, List.set_cons_zero, List.set_cons_succ])
    refine lin_done ?_
    go_wp2_with fail
    go_meet
    exact ⟨rfl, HB2⟩
  case rest =>
  obtain ⟨rfl, HB2⟩ := hcut
  clear k0 k1 k2 k3 k4 k5 k6 k7
  obtain ⟨k0, k1, k2, k3, k4, k5, k6, k7⟩ := HB2.out.c44
  go_wp2
  go_ret
  exact ⟨ret_int HE.out.symm, HB2.out.1⟩

set_option maxRecDepth 100000 in
set_option maxHeartbeats 4000000 in
theorem sHowMeet_apart2 (a b c d p q r s : Int) (w : World) (hs : isS a b c d = true) (ht : isS p q r s = true) (hx : Apart a b c d p q r s) (h1 : ¬ max a c < min p r) (h2 : max p r < min a c) :
    Calls Tryz.prog 113 #[SegV a b c d, SegV p q r s] w fun e w' => e = .returned (.int .i64 (howV a b c d p q r s)) ∧ Below w.heap.size w w' := by
  obtain ⟨z, hz⟩ : ∃ z, howV a b c d p q r s = z := ⟨_, rfl⟩
  rw [hz]
  have HE := Lib.hid (hz.symm.trans (how_apart hx))
  clear hx hz
  have HB := Lib.hid (Vars.of2 w (SegC a b c d) (SegC p q r s) 78 78)
  go_enter Tryz.func113, Tryz.ntmps113
  go_wp2_with fail
  refine (sIsSegment_is a b c d _ _ hs).mono ?_
  rintro e w1 ⟨rfl, hb1⟩
  have HB1 := Lib.hid (HB.out.next hb1)
  clear hb1 HB
  obtain ⟨k0, k1, k2, k3, k4, k5, k6, k7⟩ := HB1.out.c44
  go_wp2_with fail
  refine (sIsSegment_is p q r s _ _ ht).mono ?_
  rintro e w2 ⟨rfl, hb2⟩
  have HB2 := Lib.hid (HB1.out.next hb2)
  clear hb2 HB1 k0 k1 k2 k3 k4 k5 k6 k7 hs ht
  obtain ⟨k0, k1, k2, k3, k4, k5, k6, k7⟩ := HB2.out.c44
  go_upto_region 3 with fail
  go_cut [78] (fun s78 wx => s78 = .bool true ∧ Hid (Vars w wx [SegC a b c d, SegC p q r s]))
  case first =>
    have HB2 := Lib.hid HB2.out.drew
    refine wp_region_held_drew (S := (fun w' => w'.cell? ⟨w.heap.size, 0, none⟩ = some (.int .i64 a) ∧ w'.cell? ⟨w.heap.size, 1, none⟩ = some (.int .i64 b) ∧ w'.cell? ⟨w.heap.size, 2, none⟩ = some (.int .i64 c) ∧ w'.cell? ⟨w.heap.size, 3, none⟩ = some (.int .i64 d) ∧ w'.cell? ⟨w.heap.size + 1, 0, none⟩ = some (.int .i64 p) ∧ w'.cell? ⟨w.heap.size + 1, 1, none⟩ = some (.int .i64 q) ∧ w'.cell? ⟨w.heap.size + 1, 2, none⟩ = some (.int .i64 r) ∧ w'.cell? ⟨w.heap.size + 1, 3, none⟩ = some (.int .i64 s))) (by kernel_rfl) HB2.out.c44 (fun hHeld => ?_)
    have d1 : decide (max a c < min p r) = false := decide_eq_false (by omega)
    have d2 : decide (max p r < min a c) = true := decide_eq_true (by omega)
    refine to_lin (T := hm3T) (n := 66) hm3S ⟨by kernel_rfl, by kernel_rfl, by kernel_rfl⟩ (by kernel_rfl) (fun hTag => ?_)
    iterate 12 (refine lin_on (v := ?_) rfl (fun _ _ _ h => h) (by rfl) ?_ (by assumption) ?_; rotate_left; (· (intro wq hSw; go_simp; try with_reducible rfl)); try simp only [Act.put, List.setIfInBounds_toArray, List.set_cons_zero, List.set_cons_succ])
    refine lin_call rfl (by rfl) (fun K hK => ?_)
    go_simp
    go_at_call 112
    refine (smax_mm _ _ _).mono ?_
    rintro e w' ⟨rfl, rfl⟩
    go_wp2_with fail
    refine hK.out _ _ ?_ (fun hHeld => ?_)
    · exact hHeld
    clear hK K
    try simp only [Act.put, List.setIfInBounds_toArray, List.set_cons_zero, List.set_cons_succ]
    refine lin_call rfl (by rfl) (fun K hK => ?_)
    go_simp
    go_at_call 138
    refine (smin_mm _ _ _).mono ?_
    rintro e w' ⟨rfl, rfl⟩
    go_wp2_with fail
    refine hK.out _ _ ?_ (fun hHeld => ?_)
    · exact hHeld
    clear hK K
    try simp only [Act.put, List.setIfInBounds_toArray, List.set_cons_zero, List.set_cons_succ]
    iterate 14 (refine lin_on (v := ?_) rfl (fun _ _ _ h => h) (by rfl) ?_ (by assumption) ?_; rotate_left; (· (intro wq hSw; go_simp; try with_reducible rfl)); try simp only [Act.put, List.setIfInBounds_toArray, List.set_cons_zero, List.set_cons_succ])
    refine lin_call rfl (by rfl) (fun K hK => ?_)
    go_simp
    go_at_call 112
    refine (smax_mm _ _ _).mono ?_
    rintro e w' ⟨rfl, rfl⟩
    go_wp2_with fail
    refine hK.out _ _ ?_ (fun hHeld => ?_)
    · exact hHeld
    clear hK K
    try simp only [Act.put, List.setIfInBounds_toArray, List.set_cons_zero, List.set_cons_succ]
    refine lin_call rfl (by rfl) (fun K hK => ?_)
    go_simp
    go_at_call 138
    refine (smin_mm _ _ _).mono ?_
    rintro e w' ⟨rfl, rfl⟩
    go_wp2_with fail
    refine hK.out _ _ ?_ (fun hHeld => ?_)
    · exact hHeld
    clear hK K
    try simp only [Act.put, List.setIfInBounds_toArray, List.set_cons_zero, List.set_cons_succ]
    iterate 3 (refine lin_on (v := ?_) rfl (fun _ _ _ h => h) (by rfl) ?_ (by assumption) ?_; rotate_left; (· (intro wq hSw; go_simp; try with_reducible rfl)); try simp only [Act.put, List.setIfInBounds_toArray, List.set_cons_zero, List.set_cons_succ])
    iterate 12 (refine lin_off rfl (fun _ _ _ h => h) (by rfl) (by assumption) ?_; try simp only [Act.put, List.setIfInBounds_toArray, List.set_cons_zero, List.set_cons_succ])
    (refine lin_skip rfl (by rfl) (by assumption) ?_; try simp only [Act.put, List.setIfInBounds_toArray, List.set_cons_zero, List.set_cons_succ])
    (refine lin_skip rfl (by rfl) (by assumption) ?_; try simp only [Act.put, List.setIfInBounds_toArray, List.set_cons_zero, List.set_cons_succ])
    (refine lin_off rfl (fun _ _ _ h => h) (by rfl) (by assumption) ?_; try simp only [Act.put, List.setIfInBounds_toArray, List.set_cons_zero, List.set_cons_succ])
    iterate 2 (refine lin_on (v := ?_) rfl (fun _ _ _ h => h) (by rfl) ?_ (by assumption) ?_; rotate_left; (· (intro wq hSw; go_simp; try with_reducible rfl)); try simp only [Act.put, List.setIfInBounds_toArray, List.set_cons_zero, List.set_cons_succ])
    iterate 12 (refine lin_off rfl (fun _ _ _ h => h) (by rfl) (by assumption) ?_; try simp only [Act.put, List.setIfInBounds_toArray, List.set_cons_zero, List.set_cons_succ])
    (refine lin_skip rfl (by rfl) (by assumption) ?_; try simp only [Act.put, List.setIfInBounds_toArray, List.set_cons_zero, List.set_cons_succ])
    (refine lin_skip rfl (by rfl) (by assumption) ?_; try simp only [Act.put, List.setIfInBounds_toArray, List.set_cons_zero, List.set_cons_succ])
    (refine lin_off rfl (fun _ _ _ h => h) (by rfl) (by assumption) ?_; try simp only [Act.put, List.setIfInBounds_toArray, List.set_cons_zero, List.set_cons_succ])
    (refine lin_on (v := ?_) rfl (fun _ _ _ h => h) (by rfl) ?_ (by assumption) ?_; rotate_left; (· (intro wq hSw; go_simp; try with_reducible rfl)); try simp only [Act.put, List.setIfInBounds_toArray, List.set_cons_zero, List.set_cons_succ])
    refine lin_done ?_
    go_wp2_with fail
    go_meet
    exact ⟨rfl, HB2⟩
  case rest =>
  obtain ⟨rfl, HB2⟩ := hcut
  clear k0 k1 k2 k3 k4 k5 k6 k7
  obtain ⟨k0, k1, k2, k3, k4, k5, k6, k7⟩ := HB2.out.c44
  go_wp2
  go_ret
  exact ⟨ret_int HE.out.symm, HB2.out.1⟩

set_option maxRecDepth 100000 in
set_option maxHeartbeats 4000000 in
theorem sHowMeet_apart3 (a b c d p q r s : Int) (w : World) (hs : isS a b c d = true) (ht : isS p q r s = true) (hx : Apart a b c d p q r s) (h1 : ¬ max a c < min p r) (h2 : ¬ max p r < min a c) (h3 : max b d < min q s) :
    Calls Tryz.prog 113 #[SegV a b c d, SegV p q r s] w fun e w' => e = .returned (.int .i64 (howV a b c d p q r s)) ∧ Below w.heap.size w w' := by
  obtain ⟨z, hz⟩ : ∃ z, howV a b c d p q r s = z := ⟨_, rfl⟩
  rw [hz]
  have HE := Lib.hid (hz.symm.trans (how_apart hx))
  clear hx hz
  have HB := Lib.hid (Vars.of2 w (SegC a b c d) (SegC p q r s) 78 78)
  go_enter Tryz.func113, Tryz.ntmps113
  go_wp2_with fail
  refine (sIsSegment_is a b c d _ _ hs).mono ?_
  rintro e w1 ⟨rfl, hb1⟩
  have HB1 := Lib.hid (HB.out.next hb1)
  clear hb1 HB
  obtain ⟨k0, k1, k2, k3, k4, k5, k6, k7⟩ := HB1.out.c44
  go_wp2_with fail
  refine (sIsSegment_is p q r s _ _ ht).mono ?_
  rintro e w2 ⟨rfl, hb2⟩
  have HB2 := Lib.hid (HB1.out.next hb2)
  clear hb2 HB1 k0 k1 k2 k3 k4 k5 k6 k7 hs ht
  obtain ⟨k0, k1, k2, k3, k4, k5, k6, k7⟩ := HB2.out.c44
  go_upto_region 3 with fail
  go_cut [78] (fun s78 wx => s78 = .bool true ∧ Hid (Vars w wx [SegC a b c d, SegC p q r s]))
  case first =>
    have HB2 := Lib.hid HB2.out.drew
    refine wp_region_held_drew (S := (fun w' => w'.cell? ⟨w.heap.size, 0, none⟩ = some (.int .i64 a) ∧ w'.cell? ⟨w.heap.size, 1, none⟩ = some (.int .i64 b) ∧ w'.cell? ⟨w.heap.size, 2, none⟩ = some (.int .i64 c) ∧ w'.cell? ⟨w.heap.size, 3, none⟩ = some (.int .i64 d) ∧ w'.cell? ⟨w.heap.size + 1, 0, none⟩ = some (.int .i64 p) ∧ w'.cell? ⟨w.heap.size + 1, 1, none⟩ = some (.int .i64 q) ∧ w'.cell? ⟨w.heap.size + 1, 2, none⟩ = some (.int .i64 r) ∧ w'.cell? ⟨w.heap.size + 1, 3, none⟩ = some (.int .i64 s))) (by kernel_rfl) HB2.out.c44 (fun hHeld => ?_)
    have d1 : decide (max a c < min p r) = false := decide_eq_false (by omega)
    have d2 : decide (max p r < min a c) = false := decide_eq_false (by omega)
    have d3 : decide (max b d < min q s) = true := decide_eq_true (by omega)
    refine to_lin (T := hm3T) (n := 66) hm3S ⟨by kernel_rfl, by kernel_rfl, by kernel_rfl⟩ (by kernel_rfl) (fun hTag => ?_)
    iterate 12 (refine lin_on (v := ?_) rfl (fun _ _ _ h => h) (by rfl) ?_ (by assumption) ?_; rotate_left; (· (intro wq hSw; go_simp; try with_reducible rfl)); try simp only [Act.put, List.setIfInBounds_toArray, List.set_cons_zero, List.set_cons_succ])
    refine lin_call rfl (by rfl) (fun K hK => ?_)
    go_simp
    go_at_call 112
    refine (smax_mm _ _ _).mono ?_
    rintro e w' ⟨rfl, rfl⟩
    go_wp2_with fail
    refine hK.out _ _ ?_ (fun hHeld => ?_)
    · exact hHeld
    clear hK K
    try simp only [Act.put, List.setIfInBounds_toArray, List.set_cons_zero, List.set_cons_succ]
    refine lin_call rfl (by rfl) (fun K hK => ?_)
    go_simp
    go_at_call 138
    refine (smin_mm _ _ _).mono ?_
    rintro e w' ⟨rfl, rfl⟩
    go_wp2_with fail
    refine hK.out _ _ ?_ (fun hHeld => ?_)
    · exact hHeld
    clear hK K
    try simp only [Act.put, List.setIfInBounds_toArray, List.set_cons_zero, List.set_cons_succ]
    iterate 14 (refine lin_on (v := ?_) rfl (fun _ _ _ h => h) (by rfl) ?_ (by assumption) ?_; rotate_left; (· (intro wq hSw; go_simp; try with_reducible rfl)); try simp only [Act.put, List.setIfInBounds_toArray, List.set_cons_zero, List.set_cons_succ])
    refine lin_call rfl (by rfl) (fun K hK => ?_)
    go_simp
    go_at_call 112
    refine (smax_mm _ _ _).mono ?_
    rintro e w' ⟨rfl, rfl⟩
    go_wp2_with fail
    refine hK.out _ _ ?_ (fun hHeld => ?_)
    · exact hHeld
    clear hK K
    try simp only [Act.put, List.setIfInBounds_toArray, List.set_cons_zero, List.set_cons_succ]
    refine lin_call rfl (by rfl) (fun K hK => ?_)
    go_simp
    go_at_call 138
    refine (smin_mm _ _ _).mono ?_
    rintro e w' ⟨rfl, rfl⟩
    go_wp2_with fail
    refine hK.out _ _ ?_ (fun hHeld => ?_)
    · exact hHeld
    clear hK K
    try simp only [Act.put, List.setIfInBounds_toArray, List.set_cons_zero, List.set_cons_succ]
    iterate 15 (refine lin_on (v := ?_) rfl (fun _ _ _ h => h) (by rfl) ?_ (by assumption) ?_; rotate_left; (· (intro wq hSw; go_simp; try with_reducible rfl)); try simp only [Act.put, List.setIfInBounds_toArray, List.set_cons_zero, List.set_cons_succ])
    refine lin_call rfl (by rfl) (fun K hK => ?_)
    go_simp
    go_at_call 112
    refine (smax_mm _ _ _).mono ?_
    rintro e w' ⟨rfl, rfl⟩
    go_wp2_with fail
    refine hK.out _ _ ?_ (fun hHeld => ?_)
    · exact hHeld
    clear hK K
    try simp only [Act.put, List.setIfInBounds_toArray, List.set_cons_zero, List.set_cons_succ]
    refine lin_call rfl (by rfl) (fun K hK => ?_)
    go_simp
    go_at_call 138
    refine (smin_mm _ _ _).mono ?_
    rintro e w' ⟨rfl, rfl⟩
    go_wp2_with fail
    refine hK.out _ _ ?_ (fun hHeld => ?_)
    · exact hHeld
    clear hK K
    try simp only [Act.put, List.setIfInBounds_toArray, List.set_cons_zero, List.set_cons_succ]
    iterate 3 (refine lin_on (v := ?_) rfl (fun _ _ _ h => h) (by rfl) ?_ (by assumption) ?_; rotate_left; (· (intro wq hSw; go_simp; try with_reducible rfl)); try simp only [Act.put, List.setIfInBounds_toArray, List.set_cons_zero, List.set_cons_succ])
    iterate 12 (refine lin_off rfl (fun _ _ _ h => h) (by rfl) (by assumption) ?_; try simp only [Act.put, List.setIfInBounds_toArray, List.set_cons_zero, List.set_cons_succ])
    (refine lin_skip rfl (by rfl) (by assumption) ?_; try simp only [Act.put, List.setIfInBounds_toArray, List.set_cons_zero, List.set_cons_succ])
    (refine lin_skip rfl (by rfl) (by assumption) ?_; try simp only [Act.put, List.setIfInBounds_toArray, List.set_cons_zero, List.set_cons_succ])
    (refine lin_off rfl (fun _ _ _ h => h) (by rfl) (by assumption) ?_; try simp only [Act.put, List.setIfInBounds_toArray, List.set_cons_zero, List.set_cons_succ])
    (refine lin_on (v := ?_) rfl (fun _ _ _ h => h) (by rfl) ?_ (by assumption) ?_; rotate_left; (· (intro wq hSw; go_simp; try with_reducible rfl)); try simp only [Act.put, List.setIfInBounds_toArray, List.set_cons_zero, List.set_cons_succ])
    refine lin_done ?_
    go_wp2_with fail
    go_meet
    exact ⟨rfl, HB2⟩
  case rest =>
  obtain ⟨rfl, HB2⟩ := hcut
  clear k0 k1 k2 k3 k4 k5 k6 k7
  obtain ⟨k0, k1, k2, k3, k4, k5, k6, k7⟩ := HB2.out.c44
  go_wp2
  go_ret
  exact ⟨ret_int HE.out.symm, HB2.out.1⟩

set_option maxRecDepth 100000 in
set_option maxHeartbeats 4000000 in
theorem sHowMeet_apart4 (a b c d p q r s : Int) (w : World) (hs : isS a b c d = true) (ht : isS p q r s = true) (hx : Apart a b c d p q r s) (h1 : ¬ max a c < min p r) (h2 : ¬ max p r < min a c) (h3 : ¬ max b d < min q s) (h4 : max q s < min b d) :
    Calls Tryz.prog 113 #[SegV a b c d, SegV p q r s] w fun e w' => e = .returned (.int .i64 (howV a b c d p q r s)) ∧ Below w.heap.size w w' := by
  obtain ⟨z, hz⟩ : ∃ z, howV a b c d p q r s = z := ⟨_, rfl⟩
  rw [hz]
  have HE := Lib.hid (hz.symm.trans (how_apart hx))
  clear hx hz
  have HB := Lib.hid (Vars.of2 w (SegC a b c d) (SegC p q r s) 78 78)
  go_enter Tryz.func113, Tryz.ntmps113
  go_wp2_with fail
  refine (sIsSegment_is a b c d _ _ hs).mono ?_
  rintro e w1 ⟨rfl, hb1⟩
  have HB1 := Lib.hid (HB.out.next hb1)
  clear hb1 HB
  obtain ⟨k0, k1, k2, k3, k4, k5, k6, k7⟩ := HB1.out.c44
  go_wp2_with fail
  refine (sIsSegment_is p q r s _ _ ht).mono ?_
  rintro e w2 ⟨rfl, hb2⟩
  have HB2 := Lib.hid (HB1.out.next hb2)
  clear hb2 HB1 k0 k1 k2 k3 k4 k5 k6 k7 hs ht
  obtain ⟨k0, k1, k2, k3, k4, k5, k6, k7⟩ := HB2.out.c44
  go_upto_region 3 with fail
  go_cut [78] (fun s78 wx => s78 = .bool true ∧ Hid (Vars w wx [SegC a b c d, SegC p q r s]))
  case first =>
    have HB2 := Lib.hid HB2.out.drew
    refine wp_region_held_drew (S := (fun w' => w'.cell? ⟨w.heap.size, 0, none⟩ = some (.int .i64 a) ∧ w'.cell? ⟨w.heap.size, 1, none⟩ = some (.int .i64 b) ∧ w'.cell? ⟨w.heap.size, 2, none⟩ = some (.int .i64 c) ∧ w'.cell? ⟨w.heap.size, 3, none⟩ = some (.int .i64 d) ∧ w'.cell? ⟨w.heap.size + 1, 0, none⟩ = some (.int .i64 p) ∧ w'.cell? ⟨w.heap.size + 1, 1, none⟩ = some (.int .i64 q) ∧ w'.cell? ⟨w.heap.size + 1, 2, none⟩ = some (.int .i64 r) ∧ w'.cell? ⟨w.heap.size + 1, 3, none⟩ = some (.int .i64 s))) (by kernel_rfl) HB2.out.c44 (fun hHeld => ?_)
    have d1 : decide (max a c < min p r) = false := decide_eq_false (by omega)
    have d2 : decide (max p r < min a c) = false := decide_eq_false (by omega)
    have d3 : decide (max b d < min q s) = false := decide_eq_false (by omega)
    have d4 : decide (max q s < min b d) = true := decide_eq_true (by omega)
    refine to_lin (T := hm3T) (n := 66) hm3S ⟨by kernel_rfl, by kernel_rfl, by kernel_rfl⟩ (by kernel_rfl) (fun hTag => ?_)
    iterate 12 (refine lin_on (v := ?_) rfl (fun _ _ _ h => h) (by rfl) ?_ (by assumption) ?_; rotate_left; (· (intro wq hSw; go_simp; try with_reducible rfl)); try simp only [Act.put, List.setIfInBounds_toArray, List.set_cons_zero, List.set_cons_succ])
    refine lin_call rfl (by rfl) (fun K hK => ?_)
    go_simp
    go_at_call 112
    refine (smax_mm _ _ _).mono ?_
    rintro e w' ⟨rfl, rfl⟩
    go_wp2_with fail
    refine hK.out _ _ ?_ (fun hHeld => ?_)
    · exact hHeld
    clear hK K
    try simp only [Act.put, List.setIfInBounds_toArray, List.set_cons_zero, List.set_cons_succ]
    refine lin_call rfl (by rfl) (fun K hK => ?_)
    go_simp
    go_at_call 138
    refine (smin_mm _ _ _).mono ?_
    rintro e w' ⟨rfl, rfl⟩
    go_wp2_with fail
    refine hK.out _ _ ?_ (fun hHeld => ?_)
    · exact hHeld
    clear hK K
    try simp only [Act.put, List.setIfInBounds_toArray, List.set_cons_zero, List.set_cons_succ]
    iterate 14 (refine lin_on (v := ?_) rfl (fun _ _ _ h => h) (by rfl) ?_ (by assumption) ?_; rotate_left; (· (intro wq hSw; go_simp; try with_reducible rfl)); try simp only [Act.put, List.setIfInBounds_toArray, List.set_cons_zero, List.set_cons_succ])
    refine lin_call rfl (by rfl) (fun K hK => ?_)
    go_simp
    go_at_call 112
    refine (smax_mm _ _ _).mono ?_
    rintro e w' ⟨rfl, rfl⟩
    go_wp2_with fail
    refine hK.out _ _ ?_ (fun hHeld => ?_)
    · exact hHeld
    clear hK K
    try simp only [Act.put, List.setIfInBounds_toArray, List.set_cons_zero, List.set_cons_succ]
    refine lin_call rfl (by rfl) (fun K hK => ?_)
    go_simp
    go_at_call 138
    refine (smin_mm _ _ _).mono ?_
    rintro e w' ⟨rfl, rfl⟩
    go_wp2_with fail
    refine hK.out _ _ ?_ (fun hHeld => ?_)
    · exact hHeld
    clear hK K
    try simp only [Act.put, List.setIfInBounds_toArray, List.set_cons_zero, List.set_cons_succ]
    iterate 15 (refine lin_on (v := ?_) rfl (fun _ _ _ h => h) (by rfl) ?_ (by assumption) ?_; rotate_left; (· (intro wq hSw; go_simp; try with_reducible rfl)); try simp only [Act.put, List.setIfInBounds_toArray, List.set_cons_zero, List.set_cons_succ])
    refine lin_call rfl (by rfl) (fun K hK => ?_)
    go_simp
    go_at_call 112
    refine (smax_mm _ _ _).mono ?_
    rintro e w' ⟨rfl, rfl⟩
    go_wp2_with fail
    refine hK.out _ _ ?_ (fun hHeld => ?_)
    · exact hHeld
    clear hK K
    try simp only [Act.put, List.setIfInBounds_toArray, List.set_cons_zero, List.set_cons_succ]
    refine lin_call rfl (by rfl) (fun K hK => ?_)
    go_simp
    go_at_call 138
    refine (smin_mm _ _ _).mono ?_
    rintro e w' ⟨rfl, rfl⟩
    go_wp2_with fail
    refine hK.out _ _ ?_ (fun hHeld => ?_)
    · exact hHeld
    clear hK K
    try simp only [Act.put, List.setIfInBounds_toArray, List.set_cons_zero, List.set_cons_succ]
    iterate 15 (refine lin_on (v := ?_) rfl (fun _ _ _ h => h) (by rfl) ?_ (by assumption) ?_; rotate_left; (· (intro wq hSw; go_simp; try with_reducible rfl)); try simp only [Act.put, List.setIfInBounds_toArray, List.set_cons_zero, List.set_cons_succ])
    refine lin_call rfl (by rfl) (fun K hK => ?_)
    go_simp
    go_at_call 112
    refine (smax_mm _ _ _).mono ?_
    rintro e w' ⟨rfl, rfl⟩
    go_wp2_with fail
    refine hK.out _ _ ?_ (fun hHeld => ?_)
    · exact hHeld
    clear hK K
    try simp only [Act.put, List.setIfInBounds_toArray, List.set_cons_zero, List.set_cons_succ]
    refine lin_call rfl (by rfl) (fun K hK => ?_)
    go_simp
    go_at_call 138
    refine (smin_mm _ _ _).mono ?_
    rintro e w' ⟨rfl, rfl⟩
    go_wp2_with fail
    refine hK.out _ _ ?_ (fun hHeld => ?_)
    · exact hHeld
    clear hK K
    try simp only [Act.put, List.setIfInBounds_toArray, List.set_cons_zero, List.set_cons_succ]
    iterate 2 (refine lin_on (v := ?_) rfl (fun _ _ _ h => h) (by rfl) ?_ (by assumption) ?_; rotate_left; (· (intro wq hSw; go_simp; try with_reducible rfl)); try simp only [Act.put, List.setIfInBounds_toArray, List.set_cons_zero, List.set_cons_succ])
    refine lin_done ?_
    go_wp2_with fail
    go_meet
    exact ⟨rfl, HB2⟩
  case rest =>
  obtain ⟨rfl, HB2⟩ := hcut
  clear k0 k1 k2 k3 k4 k5 k6 k7
  obtain ⟨k0, k1, k2, k3, k4, k5, k6, k7⟩ := HB2.out.c44
  go_wp2
  go_ret
  exact ⟨ret_int HE.out.symm, HB2.out.1⟩

end Go.Proofs.YtbnjaaegbmhopaaGreatDoor
