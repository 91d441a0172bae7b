/- FnSegments: how segments meet does not depend on their order or direction: its walk. -/
import Derived.Test.YtbnjaaegbmhopaaSegAll
import Derived.Test.YtbnjaaegbmhopaaDrawSeg
namespace Go.Proofs.Ytbnjaaegbmhopaa
open Go.ChangeShapes Go.WideShapes Go.ChangeAt Go.RowKit
set_option linter.unusedVariables false

theorem bel_step {w w1 w2 : World} (h : Below w.heap.size w w1) (hb : Below w1.heap.size w1 w2) : Below w.heap.size w w2 := h.trans (hb.mono h.size)
/-- What is known of two segments, by how they meet. -/
def Known (n : Int) (s t o1 o2 o3 o4 : Bool) : Prop :=
  (s = false ∧ n = 0) ∨ (s = true ∧ t = false ∧ n = 0) ∨ (s = true ∧ t = true ∧ (n = 0 ∨ n = 2) ∧ o1 = false ∧ o2 = false ∧ o3 = false ∧ o4 = false) ∨ (s = true ∧ t = true ∧ (n = 1 ∨ n = 3))
theorem known_any (a b c d p q r s : Int) : Known (howV a b c d p q r s) (isS a b c d) (isS p q r s) (onV a b c d p q) (onV a b c d r s) (onV p q r s a b) (onV p q r s c d) := by
  unfold Known
  cases hs : isS a b c d
  · exact .inl ⟨rfl, how_no (fun h => by rw [hs] at h; cases h.1)⟩
  · cases ht : isS p q r s
    · exact .inr (.inl ⟨rfl, rfl, how_no (fun h => by rw [ht] at h; cases h.2)⟩)
    · have hb := how_bd a b c d p q r s
      by_cases hn : howV a b c d p q r s = 1 ∨ howV a b c d p q r s = 3
      · exact .inr (.inr (.inr ⟨rfl, rfl, hn⟩))
      · have no (h : onV p q r s a b = true ∨ onV p q r s c d = true ∨ onV a b c d p q = true ∨ onV a b c d r s = true) : False := hn (how_onV hs ht h)
        refine .inr (.inr (.inl ⟨rfl, rfl, by omega, ?_, ?_, ?_, ?_⟩)) <;> refine Bool.eq_false_iff.2 fun h => no ?_ <;> simp [h]
theorem bet_on {a b c d x y : Int} (h : betV a b c d x y = true) : onV a b c d x y = true := by
  simp only [betV, Bool.and_eq_true] at h; exact h.1

set_option maxRecDepth 100000 in
set_option maxHeartbeats 8000000 in
theorem law_segments (A : Option Addr) (len cap : Nat) (w : World) (hc : Code w w.heap.size A len) :
    Calls Try.prog 4 #[.slice A len cap] w fun e w' => e = .returned (.bool true) ∧ Below w.heap.size w w' := by
  have hlen := hc.1
  by_cases hbig : 1048576 < len
  · go_enter Try.func4, Try.ntmps4
    go_wp2_with fail
    refine (big_yes A len cap _ hbig).mono ?_
    rintro e w0 ⟨rfl, rfl⟩
    go_wp2
    go_ret
    exact ⟨rfl, Below.refl _ _⟩
  · go_enter Try.func4, Try.ntmps4
    have HC := Lib.hid hc; clear hc
    go_wp2_with fail
    refine (big_no A len cap _ (by omega)).mono ?_
    rintro e w0 ⟨rfl, rfl⟩
    go_wp2_with fail
    refine (drawHowMeet_any A len cap _ _ HC.out).mono ?_
    rintro e w1 ⟨⟨a, b, c, d, p, q, r, s, rfl⟩, hb1⟩
    have HB := Lib.hid (Vars.of2 w1 (SegC a b c d) (SegC p q r s) 38 38)
    have HW := Lib.hid hb1
    clear hb1
    have hself : isS a b c d = true → howV a b c d a b c d = 3 := how_self
    have hends : isS a b c d = true → onV a b c d a b = true ∧ onV a b c d c d = true ∧ betV a b c d a b = false := on_ends
    have hkn := known_any a b c d p q r s
    obtain ⟨n, hn⟩ : ∃ n, howV a b c d p q r s = n := ⟨_, rfl⟩
    obtain ⟨u, hu⟩ : ∃ u, isS a b c d = u := ⟨_, rfl⟩
    obtain ⟨v, hv⟩ : ∃ v, isS p q r s = v := ⟨_, rfl⟩
    obtain ⟨o1, ho1⟩ : ∃ o, onV a b c d p q = o := ⟨_, rfl⟩
    obtain ⟨o2, ho2⟩ : ∃ o, onV a b c d r s = o := ⟨_, rfl⟩
    obtain ⟨o3, ho3⟩ : ∃ o, onV p q r s a b = o := ⟨_, rfl⟩
    obtain ⟨o4, ho4⟩ : ∃ o, onV p q r s c d = o := ⟨_, rfl⟩
    rw [hn, hu, hv, ho1, ho2, ho3, ho4] at hkn
    rw [hu] at hself hends
    have HK := Lib.hid hkn
    have HS := Lib.hid hself
    have HE := Lib.hid hends
    have N1 := Lib.hid hn
    have N2 : Hid (howV p q r s a b c d = n) := Lib.hid (by rw [how_comm, hn])
    have N3 : Hid (howV c d a b p q r s = n) := Lib.hid (by rw [how_turn, hn])
    have N4 : Hid (howV a b c d r s p q = n) := Lib.hid (by rw [how_turn2, hn])
    have U := Lib.hid hu
    have V := Lib.hid hv
    have O1 := Lib.hid ho1
    have O2 := Lib.hid ho2
    have O3 := Lib.hid ho3
    have O4 := Lib.hid ho4
    clear hn hu hv ho1 ho2 ho3 ho4 hkn hself hends
    obtain ⟨k0, k1, k2, k3, k4, k5, k6, k7⟩ := HB.out.c44
    go_wp2_with fail
    refine (howMeet_is _ _ _ _ _ _ _ _ _ _ N1.out).mono ?_
    rintro e w2 ⟨rfl, hb2⟩
    have HB := Lib.hid (HB.out.next hb2)
    clear hb2 k0 k1 k2 k3 k4 k5 k6 k7
    obtain ⟨k0, k1, k2, k3, k4, k5, k6, k7⟩ := HB.out.c44
    go_wp2_with fail
    refine (sHowMeet_is _ _ _ _ _ _ _ _ _ _ N1.out).mono ?_
    rintro e w3 ⟨rfl, hb3⟩
    have HB := Lib.hid (HB.out.next hb3)
    clear hb3 k0 k1 k2 k3 k4 k5 k6 k7
    go_upto_region 7 with fail
    go_cut [43] (fun s43 wx => s43 = .bool false ∧ Hid (Vars w1 wx [SegC a b c d, SegC p q r s]))
    case first =>
      have HB := Lib.hid HB.out.drew
      refine wp_region_held_drew (S := (fun w' => w'.cell? ⟨w1.heap.size, 0, none⟩ = some (.int .i64 a) ∧ w'.cell? ⟨w1.heap.size, 1, none⟩ = some (.int .i64 b) ∧ w'.cell? ⟨w1.heap.size, 2, none⟩ = some (.int .i64 c) ∧ w'.cell? ⟨w1.heap.size, 3, none⟩ = some (.int .i64 d) ∧ w'.cell? ⟨w1.heap.size + 1, 0, none⟩ = some (.int .i64 p) ∧ w'.cell? ⟨w1.heap.size + 1, 1, none⟩ = some (.int .i64 q) ∧ w'.cell? ⟨w1.heap.size + 1, 2, none⟩ = some (.int .i64 r) ∧ w'.cell? ⟨w1.heap.size + 1, 3, none⟩ = some (.int .i64 s))) (by kernel_rfl) HB.out.c44 (fun hHeld => ?_)
      refine to_lin (T := [(0, 24, 32), (0, 25, 16), (0, 26, 8), (6, 27, 50331648), (9, 28, 75497472), (24, 29, 134217728), (32, 30, 268435488), (32, 31, 268435464), (160, 32, 1342177280), (32, 33, 268435472), (800, 34, 6710886400), (1120, 35, 9395240960), (2080, 36, 17448304640), (5120, 37, 34359738368), (8192, 38, 68719476768), (8192, 39, 68719476744), (8192, 40, 68719476752), (73728, 41, 618475290624), (172032, 42, 1443109011456), (286720, 43, 2405181685760), (532480, 44, 4466765987840)]) (n := 21) [(0, true), (1, true), (2, true), (3, false), (4, true), (5, true), (6, true), (7, true), (9, true), (8, false), (10, false), (11, true), (12, true), (13, true), (14, true), (15, true), (16, true), (17, false), (18, false), (19, true), (20, true)] ⟨by kernel_rfl, by kernel_rfl, by kernel_rfl⟩ (by kernel_rfl) (fun hTag => ?_)
      iterate 3 (refine lin_on (v := ?_) rfl (fun _ _ _ h => h) (by rfl) ?_ (by assumption) ?_; rotate_left; (· (intro wq hSw; go_simp; try with_reducible rfl)); try simp only [Act.put, List.setIfInBounds_toArray, List.set_cons_zero, List.set_cons_succ])
      refine lin_call rfl (by rfl) (fun K hK => ?_)
      go_simp
      go_at_call 24
      refine (howMeet_is _ _ _ _ _ _ _ _ _ _ N2.out).mono ?_
      rintro e w9 ⟨rfl, hb9⟩
      have HB := Lib.hid (HB.out.next hb9)
      clear hb9
      go_wp2_with fail
      refine hK.out _ _ ?_ (fun hHeld => ?_)
      · exact HB.out.c44
      clear hK K
      try simp only [Act.put, List.setIfInBounds_toArray, List.set_cons_zero, List.set_cons_succ]
      iterate 5 (refine lin_on (v := ?_) rfl (fun _ _ _ h => h) (by rfl) ?_ (by assumption) ?_; rotate_left; (· (intro wq hSw; go_simp; try with_reducible rfl)); try simp only [Act.put, List.setIfInBounds_toArray, List.set_cons_zero, List.set_cons_succ])
      refine lin_call rfl (by rfl) (fun K hK => ?_)
      go_simp
      go_at_call 26
      refine (turn_any _ _ _ _ _).mono ?_
      rintro e w9 ⟨rfl, hb9⟩
      have HB := Lib.hid (HB.out.next hb9)
      clear hb9
      go_wp2_with fail
      refine hK.out _ _ ?_ (fun hHeld => ?_)
      · exact HB.out.c44
      clear hK K
      try simp only [Act.put, List.setIfInBounds_toArray, List.set_cons_zero, List.set_cons_succ]
      refine lin_call rfl (by rfl) (fun K hK => ?_)
      go_simp
      go_at_call 24
      refine (howMeet_is _ _ _ _ _ _ _ _ _ _ N3.out).mono ?_
      rintro e w9 ⟨rfl, hb9⟩
      have HB := Lib.hid (HB.out.next hb9)
      clear hb9
      go_wp2_with fail
      refine hK.out _ _ ?_ (fun hHeld => ?_)
      · exact HB.out.c44
      clear hK K
      try simp only [Act.put, List.setIfInBounds_toArray, List.set_cons_zero, List.set_cons_succ]
      iterate 6 (refine lin_on (v := ?_) rfl (fun _ _ _ h => h) (by rfl) ?_ (by assumption) ?_; rotate_left; (· (intro wq hSw; go_simp; try with_reducible rfl)); try simp only [Act.put, List.setIfInBounds_toArray, List.set_cons_zero, List.set_cons_succ])
      refine lin_call rfl (by rfl) (fun K hK => ?_)
      go_simp
      go_at_call 26
      refine (turn_any _ _ _ _ _).mono ?_
      rintro e w9 ⟨rfl, hb9⟩
      have HB := Lib.hid (HB.out.next hb9)
      clear hb9
      go_wp2_with fail
      refine hK.out _ _ ?_ (fun hHeld => ?_)
      · exact HB.out.c44
      clear hK K
      try simp only [Act.put, List.setIfInBounds_toArray, List.set_cons_zero, List.set_cons_succ]
      refine lin_call rfl (by rfl) (fun K hK => ?_)
      go_simp
      go_at_call 24
      refine (howMeet_is _ _ _ _ _ _ _ _ _ _ N4.out).mono ?_
      rintro e w9 ⟨rfl, hb9⟩
      have HB := Lib.hid (HB.out.next hb9)
      clear hb9
      go_wp2_with fail
      refine hK.out _ _ ?_ (fun hHeld => ?_)
      · exact HB.out.c44
      clear hK K
      try simp only [Act.put, List.setIfInBounds_toArray, List.set_cons_zero, List.set_cons_succ]
      iterate 2 (refine lin_on (v := ?_) rfl (fun _ _ _ h => h) (by rfl) ?_ (by assumption) ?_; rotate_left; (· (intro wq hSw; go_simp; try with_reducible rfl)); try simp only [Act.put, List.setIfInBounds_toArray, List.set_cons_zero, List.set_cons_succ])
      refine lin_done ?_
      go_wp2_with fail
      go_meet
      exact ⟨rfl, HB⟩
    case rest =>
    obtain ⟨rfl, HB⟩ := hcut
    clear N1 N2 N3 N4
    obtain ⟨k0, k1, k2, k3, k4, k5, k6, k7⟩ := HB.out.c44
    go_upto_region 9 with fail
    go_cut [71] (fun s71 wx => s71 = .bool false ∧ Hid (Vars w1 wx [SegC a b c d, SegC p q r s]))
    case first =>
      cases u
      · go_wp2_with fail
        refine (isSegment_is _ _ _ _ _ _ U.out).mono ?_
        rintro e w4 ⟨rfl, hb4⟩
        have HB := Lib.hid (HB.out.next hb4)
        clear hb4 k0 k1 k2 k3 k4 k5 k6 k7
        go_wp2_with fail
        go_meet
        exact ⟨rfl, HB⟩
      · have S1 := Lib.hid (HS.out rfl)
        have E1 := Lib.hid (HE.out rfl).1
        have E2 := Lib.hid (HE.out rfl).2.1
        have E3 := Lib.hid (HE.out rfl).2.2
        go_wp2_with fail
        refine (isSegment_is _ _ _ _ _ _ U.out).mono ?_
        rintro e w4 ⟨rfl, hb4⟩
        have HB := Lib.hid (HB.out.next hb4)
        clear hb4 k0 k1 k2 k3 k4 k5 k6 k7
        obtain ⟨k0, k1, k2, k3, k4, k5, k6, k7⟩ := HB.out.c44
        go_wp2_with fail
        refine (howMeet_is _ _ _ _ _ _ _ _ _ _ S1.out).mono ?_
        rintro e w5 ⟨rfl, hb5⟩
        have HB := Lib.hid (HB.out.next hb5)
        clear hb5 k0 k1 k2 k3 k4 k5 k6 k7
        obtain ⟨k0, k1, k2, k3, k4, k5, k6, k7⟩ := HB.out.c44
        go_wp2_with fail
        refine (isOn_is _ _ _ _ _ _ _ _ E1.out).mono ?_
        rintro e w6 ⟨rfl, hb6⟩
        have HB := Lib.hid (HB.out.next hb6)
        clear hb6 k0 k1 k2 k3 k4 k5 k6 k7
        obtain ⟨k0, k1, k2, k3, k4, k5, k6, k7⟩ := HB.out.c44
        go_wp2_with fail
        refine (isOn_is _ _ _ _ _ _ _ _ E2.out).mono ?_
        rintro e w7 ⟨rfl, hb7⟩
        have HB := Lib.hid (HB.out.next hb7)
        clear hb7 k0 k1 k2 k3 k4 k5 k6 k7
        obtain ⟨k0, k1, k2, k3, k4, k5, k6, k7⟩ := HB.out.c44
        go_wp2_with fail
        refine (isBetween_is _ _ _ _ _ _ _ _ E3.out).mono ?_
        rintro e w8 ⟨rfl, hb8⟩
        have HB := Lib.hid (HB.out.next hb8)
        clear hb8 k0 k1 k2 k3 k4 k5 k6 k7
        go_wp2_with fail
        go_meet
        exact ⟨rfl, HB⟩
    case rest =>
    obtain ⟨rfl, HB⟩ := hcut
    clear HS HE k0 k1 k2 k3 k4 k5 k6 k7
    obtain ⟨k0, k1, k2, k3, k4, k5, k6, k7⟩ := HB.out.c44
    go_upto_region 11 with fail
    go_cut [121] (fun s121 wx => s121 = .bool false ∧ Hid (Vars w1 wx [SegC a b c d, SegC p q r s]))
    case first =>
      have hk := HK.out
      unfold Known at hk
      clear HK
      rcases hk with ⟨rfl, rfl⟩ | ⟨rfl, rfl, rfl⟩ | ⟨rfl, rfl, (rfl | rfl), rfl, rfl, rfl, rfl⟩ | ⟨rfl, rfl, (rfl | rfl)⟩
      all_goals
        go_wp2_with (first
          | (go_at_call 27; refine (isSegment_is _ _ _ _ _ _ (by first | exact U.out | exact V.out)).mono ?_; rintro e w9 ⟨rfl, hb9⟩; have HB := Lib.hid (HB.out.next hb9); clear hb9 k0 k1 k2 k3 k4 k5 k6 k7; obtain ⟨k0, k1, k2, k3, k4, k5, k6, k7⟩ := HB.out.c44)
          | (go_at_call 28; refine (isOn_is _ _ _ _ _ _ _ _ (by first | exact O1.out | exact O2.out | exact O3.out | exact O4.out)).mono ?_; rintro e w9 ⟨rfl, hb9⟩; have HB := Lib.hid (HB.out.next hb9); clear hb9 k0 k1 k2 k3 k4 k5 k6 k7; obtain ⟨k0, k1, k2, k3, k4, k5, k6, k7⟩ := HB.out.c44)
          | fail)
        go_meet
        exact ⟨rfl, HB⟩
    case rest =>
    obtain ⟨rfl, HB⟩ := hcut
    have HW := Lib.hid (bel_step HW.out HB.out.1)
    have HC := Lib.hid (code_below HC.out HW.out)
    clear HB HK U V O1 O2 O3 O4 k0 k1 k2 k3 k4 k5 k6 k7
    go_wp2_with fail
    refine (drawIsOn_any A len cap _ _ HC.out).mono ?_
    rintro e w7 ⟨⟨a1, b1, c1, d1, x, y, rfl⟩, hb7⟩
    have HB := Lib.hid (Vars.of2 w7 (SegC a1 b1 c1 d1) (PtC x y) 38 25)
    have HW := Lib.hid (bel_step HW.out hb7)
    clear hb7 HC
    obtain ⟨o, ho⟩ : ∃ o, onV a1 b1 c1 d1 x y = o := ⟨_, rfl⟩
    obtain ⟨t, ht⟩ : ∃ t, betV a1 b1 c1 d1 x y = t := ⟨_, rfl⟩
    have hto : t = true → o = true := fun h => by rw [← ho]; exact bet_on (by rw [ht, h])
    have O1 := Lib.hid ho
    have O2 : Hid (onV c1 d1 a1 b1 x y = o) := Lib.hid (by rw [onV_turn, ho])
    have B1 := Lib.hid ht
    have HT := Lib.hid hto
    clear ho ht hto
    go_upto_region 14 with fail
    generalize ((w7.alloc (.cells (SegC a1 b1 c1 d1) 38)).alloc (.cells (PtC x y) 25)) = wz at HB ⊢
    have HB := Lib.hid HB.out.drew
    refine wp_region_held_drew (S := (fun w' => w'.cell? ⟨w7.heap.size, 0, none⟩ = some (.int .i64 a1) ∧ w'.cell? ⟨w7.heap.size, 1, none⟩ = some (.int .i64 b1) ∧ w'.cell? ⟨w7.heap.size, 2, none⟩ = some (.int .i64 c1) ∧ w'.cell? ⟨w7.heap.size, 3, none⟩ = some (.int .i64 d1) ∧ w'.cell? ⟨w7.heap.size + 1, 0, none⟩ = some (.int .i64 x) ∧ w'.cell? ⟨w7.heap.size + 1, 1, none⟩ = some (.int .i64 y))) (by kernel_rfl) HB.out.c42p (fun hHeld => ?_)
    cases t
    · clear HT
      cases o
      all_goals
        refine to_lin (T := [(0, 128, 64), (0, 129, 128), (3, 130, 510423550381407695195061911147652317184), (0, 131, 64), (12, 132, 1361129467683753853853498429727072845824), (0, 133, 128), (48, 134, 8166776806102523123120990578362437074944), (68, 135, 11569600475311907757754736652680119189504), (192, 136, 21778071482940061661655974875633165533184), (256, 137, 43556142965880123323311949751266331066432), (256, 138, 43556142965880123323311949751266331066496), (1792, 139, 304893000761160863263183648258864317464576), (2304, 140, 392005286692921109909807547761396979597312), (6400, 141, 740454430419962096496303145771527628128256), (8192, 142, 1393796574908163946345982392040522594123840), (8192, 143, 1393796574908163946345982392040522594123904), (57344, 144, 9756576024357147624421876744283658158866432), (73984, 145, 12587725317139355640437153478115969678180352), (131328, 146, 22344301341496503264859030222399627837046784), (524287, 3, 44601490397061246283071436545296723011960832)]) (n := 20) [(0, true), (1, true), (3, true), (5, true), (2, false), (4, false), (6, false), (7, true), (8, true), (9, true), (10, true), (11, false), (12, true), (13, true), (14, true), (15, true), (16, false), (17, true), (18, true), (19, true)] ⟨by kernel_rfl, by kernel_rfl, by kernel_rfl⟩ (by kernel_rfl) (fun hTag => ?_)
        iterate 4 (refine lin_on (v := ?_) rfl (fun _ _ _ h => h) (by rfl) ?_ (by assumption) ?_; rotate_left; (· (intro wq hSw; go_simp; try with_reducible rfl)); try simp only [Act.put, List.setIfInBounds_toArray, List.set_cons_zero, List.set_cons_succ])
        refine lin_call rfl (by rfl) (fun K hK => ?_)
        go_simp
        go_at_call 28
        refine (isOn_is _ _ _ _ _ _ _ _ O1.out).mono ?_
        rintro e w9 ⟨rfl, hb9⟩
        have HB := Lib.hid (HB.out.next hb9)
        clear hb9
        go_wp2_with fail
        refine hK.out _ _ ?_ (fun hHeld => ?_)
        · exact HB.out.c42p
        clear hK K
        try simp only [Act.put, List.setIfInBounds_toArray, List.set_cons_zero, List.set_cons_succ]
        refine lin_call rfl (by rfl) (fun K hK => ?_)
        go_simp
        go_at_call 26
        refine (turn_any _ _ _ _ _).mono ?_
        rintro e w9 ⟨rfl, hb9⟩
        have HB := Lib.hid (HB.out.next hb9)
        clear hb9
        go_wp2_with fail
        refine hK.out _ _ ?_ (fun hHeld => ?_)
        · exact HB.out.c42p
        clear hK K
        try simp only [Act.put, List.setIfInBounds_toArray, List.set_cons_zero, List.set_cons_succ]
        refine lin_call rfl (by rfl) (fun K hK => ?_)
        go_simp
        go_at_call 28
        refine (isOn_is _ _ _ _ _ _ _ _ O2.out).mono ?_
        rintro e w9 ⟨rfl, hb9⟩
        have HB := Lib.hid (HB.out.next hb9)
        clear hb9
        go_wp2_with fail
        refine hK.out _ _ ?_ (fun hHeld => ?_)
        · exact HB.out.c42p
        clear hK K
        try simp only [Act.put, List.setIfInBounds_toArray, List.set_cons_zero, List.set_cons_succ]
        iterate 4 (refine lin_on (v := ?_) rfl (fun _ _ _ h => h) (by rfl) ?_ (by assumption) ?_; rotate_left; (· (intro wq hSw; go_simp; try with_reducible rfl)); try simp only [Act.put, List.setIfInBounds_toArray, List.set_cons_zero, List.set_cons_succ])
        refine lin_call rfl (by rfl) (fun K hK => ?_)
        go_simp
        go_at_call 29
        refine (isBetween_is _ _ _ _ _ _ _ _ B1.out).mono ?_
        rintro e w9 ⟨rfl, hb9⟩
        have HB := Lib.hid (HB.out.next hb9)
        clear hb9
        go_wp2_with fail
        refine hK.out _ _ ?_ (fun hHeld => ?_)
        · exact HB.out.c42p
        clear hK K
        try simp only [Act.put, List.setIfInBounds_toArray, List.set_cons_zero, List.set_cons_succ]
        iterate 2 (refine lin_on (v := ?_) rfl (fun _ _ _ h => h) (by rfl) ?_ (by assumption) ?_; rotate_left; (· (intro wq hSw; go_simp; try with_reducible rfl)); try simp only [Act.put, List.setIfInBounds_toArray, List.set_cons_zero, List.set_cons_succ])
        iterate 2 (refine lin_off rfl (fun _ _ _ h => h) (by rfl) (by assumption) ?_; try simp only [Act.put, List.setIfInBounds_toArray, List.set_cons_zero, List.set_cons_succ])
        (refine lin_skip rfl (by rfl) (by assumption) ?_; try simp only [Act.put, List.setIfInBounds_toArray, List.set_cons_zero, List.set_cons_succ])
        iterate 3 (refine lin_on (v := ?_) rfl (fun _ _ _ h => h) (by rfl) ?_ (by assumption) ?_; rotate_left; (· (intro wq hSw; go_simp; try with_reducible rfl)); try simp only [Act.put, List.setIfInBounds_toArray, List.set_cons_zero, List.set_cons_succ])
        refine lin_done ?_
        go_wp2
        go_ret
        exact ⟨rfl, bel_step HW.out HB.out.1⟩
    · obtain rfl := HT.out rfl
      clear HT
      refine to_lin (T := [(0, 128, 64), (0, 129, 128), (3, 130, 510423550381407695195061911147652317184), (0, 131, 64), (12, 132, 1361129467683753853853498429727072845824), (0, 133, 128), (48, 134, 8166776806102523123120990578362437074944), (68, 135, 11569600475311907757754736652680119189504), (192, 136, 21778071482940061661655974875633165533184), (256, 137, 43556142965880123323311949751266331066432), (256, 138, 43556142965880123323311949751266331066496), (1792, 139, 304893000761160863263183648258864317464576), (2304, 140, 392005286692921109909807547761396979597312), (6400, 141, 740454430419962096496303145771527628128256), (8192, 142, 1393796574908163946345982392040522594123840), (8192, 143, 1393796574908163946345982392040522594123904), (57344, 144, 9756576024357147624421876744283658158866432), (73984, 145, 12587725317139355640437153478115969678180352), (131328, 146, 22344301341496503264859030222399627837046784), (524287, 3, 44601490397061246283071436545296723011960832)]) (n := 20) [(0, true), (1, true), (3, true), (5, true), (2, false), (4, false), (6, false), (7, true), (8, true), (9, true), (10, true), (11, false), (12, true), (13, true), (14, true), (15, true), (16, false), (17, true), (18, true), (19, true)] ⟨by kernel_rfl, by kernel_rfl, by kernel_rfl⟩ (by kernel_rfl) (fun hTag => ?_)
      iterate 4 (refine lin_on (v := ?_) rfl (fun _ _ _ h => h) (by rfl) ?_ (by assumption) ?_; rotate_left; (· (intro wq hSw; go_simp; try with_reducible rfl)); try simp only [Act.put, List.setIfInBounds_toArray, List.set_cons_zero, List.set_cons_succ])
      refine lin_call rfl (by rfl) (fun K hK => ?_)
      go_simp
      go_at_call 28
      refine (isOn_is _ _ _ _ _ _ _ _ O1.out).mono ?_
      rintro e w9 ⟨rfl, hb9⟩
      have HB := Lib.hid (HB.out.next hb9)
      clear hb9
      go_wp2_with fail
      refine hK.out _ _ ?_ (fun hHeld => ?_)
      · exact HB.out.c42p
      clear hK K
      try simp only [Act.put, List.setIfInBounds_toArray, List.set_cons_zero, List.set_cons_succ]
      refine lin_call rfl (by rfl) (fun K hK => ?_)
      go_simp
      go_at_call 26
      refine (turn_any _ _ _ _ _).mono ?_
      rintro e w9 ⟨rfl, hb9⟩
      have HB := Lib.hid (HB.out.next hb9)
      clear hb9
      go_wp2_with fail
      refine hK.out _ _ ?_ (fun hHeld => ?_)
      · exact HB.out.c42p
      clear hK K
      try simp only [Act.put, List.setIfInBounds_toArray, List.set_cons_zero, List.set_cons_succ]
      refine lin_call rfl (by rfl) (fun K hK => ?_)
      go_simp
      go_at_call 28
      refine (isOn_is _ _ _ _ _ _ _ _ O2.out).mono ?_
      rintro e w9 ⟨rfl, hb9⟩
      have HB := Lib.hid (HB.out.next hb9)
      clear hb9
      go_wp2_with fail
      refine hK.out _ _ ?_ (fun hHeld => ?_)
      · exact HB.out.c42p
      clear hK K
      try simp only [Act.put, List.setIfInBounds_toArray, List.set_cons_zero, List.set_cons_succ]
      iterate 4 (refine lin_on (v := ?_) rfl (fun _ _ _ h => h) (by rfl) ?_ (by assumption) ?_; rotate_left; (· (intro wq hSw; go_simp; try with_reducible rfl)); try simp only [Act.put, List.setIfInBounds_toArray, List.set_cons_zero, List.set_cons_succ])
      refine lin_call rfl (by rfl) (fun K hK => ?_)
      go_simp
      go_at_call 29
      refine (isBetween_is _ _ _ _ _ _ _ _ B1.out).mono ?_
      rintro e w9 ⟨rfl, hb9⟩
      have HB := Lib.hid (HB.out.next hb9)
      clear hb9
      go_wp2_with fail
      refine hK.out _ _ ?_ (fun hHeld => ?_)
      · exact HB.out.c42p
      clear hK K
      try simp only [Act.put, List.setIfInBounds_toArray, List.set_cons_zero, List.set_cons_succ]
      iterate 4 (refine lin_on (v := ?_) rfl (fun _ _ _ h => h) (by rfl) ?_ (by assumption) ?_; rotate_left; (· (intro wq hSw; go_simp; try with_reducible rfl)); try simp only [Act.put, List.setIfInBounds_toArray, List.set_cons_zero, List.set_cons_succ])
      refine lin_call rfl (by rfl) (fun K hK => ?_)
      go_simp
      go_at_call 28
      refine (isOn_is _ _ _ _ _ _ _ _ O1.out).mono ?_
      rintro e w9 ⟨rfl, hb9⟩
      have HB := Lib.hid (HB.out.next hb9)
      clear hb9
      go_wp2_with fail
      refine hK.out _ _ ?_ (fun hHeld => ?_)
      · exact HB.out.c42p
      clear hK K
      try simp only [Act.put, List.setIfInBounds_toArray, List.set_cons_zero, List.set_cons_succ]
      iterate 3 (refine lin_on (v := ?_) rfl (fun _ _ _ h => h) (by rfl) ?_ (by assumption) ?_; rotate_left; (· (intro wq hSw; go_simp; try with_reducible rfl)); try simp only [Act.put, List.setIfInBounds_toArray, List.set_cons_zero, List.set_cons_succ])
      refine lin_done ?_
      go_wp2
      go_ret
      exact ⟨rfl, bel_step HW.out HB.out.1⟩
theorem law_segments_row (A : Option Addr) (len cap : Nat) (z : List Int) (w : World) (hrow : IsRow .u8 w A len cap z) :
    Calls Try.prog 4 #[.slice A len cap] w fun e w' => e = .returned (.bool true) ∧ Below w.heap.size w w' :=
  law_segments A len cap w (code_of_row hrow)
end Go.Proofs.Ytbnjaaegbmhopaa
