/- Simpler lines: IsFaithful of the model. -/
import Derived.Test.YtpbmngbigdaklaaSimpG
import Derived.Test.YtpbmngbigdaklaaSimpS
import Derived.Test.YtpbmngbigdaklaaLineS1
import Derived.Test.YtpbmngbigdaklaaLineS2
import Derived.Deep.DeepCutAuto
import Derived.Deep.RegionHeld3
namespace Go.Proofs.Ytpbmngbigdaklaa
open Go.ChangeShapes Go.WideShapes Go.ChangeAt Go.RowKit
set_option linter.unusedVariables false
def faithST : List (Nat × Nat × Nat) := [(0, 12, 1), (1, 13, 2048), (2, 14, 4096), (6, 15, 8192), (8, 16, 16386), (24, 17, 49152), (40, 18, 81920), (72, 19, 147456), (160, 20, 262144), (256, 21, 524289), (768, 22, 1572864), (1280, 23, 2621440), (256, 24, 524290), (4352, 25, 8912896), (8448, 26, 17301504), (18688, 27, 38273024), (33024, 28, 67633152), (65792, 29, 134217728), (131072, 30, 268435457), (131072, 31, 268435457), (655360, 32, 1342177280), (1179648, 33, 2415919104), (2490368, 34, 5100273664), (4325376, 35, 8858370048), (131072, 36, 268435458), (131072, 37, 268435458), (33685504, 38, 68987912192), (67239936, 39, 137707388928), (151126016, 40, 309506080768), (268566528, 41, 550024249344), (545390592, 42, 1116959932416), (1073872896, 43, 2199291691008)]
def faithSS : List (Nat × Bool) := [(0, true), (1, false), (2, true), (3, true), (4, true), (5, false), (6, true), (7, true), (8, true), (9, true), (10, true), (11, true), (12, true), (13, true), (14, true), (15, true), (16, true), (17, true), (18, true), (19, true), (20, true), (21, true), (22, true), (23, true), (24, true), (25, true), (26, true), (27, true), (28, true), (29, true), (30, true), (31, true)]
def faithNT : List (Nat × Nat × Nat) := [(0, 58, 512), (1, 59, 144115188075855872), (2, 60, 288230376151711872), (2, 61, 288230376151712768), (14, 62, 2017612633061982208), (18, 63, 2594073385365405696), (2, 64, 288230376151711745), (2, 65, 288230376151712000), (194, 66, 27958346486716039168), (258, 67, 37181718523570814976), (2, 68, 288230376151711748), (1570, 69, 226260845279093719040), (2050, 70, 295436135555504537600), (8191, 10, 590295810358705651712)]
def faithNS : List (Nat × Bool) := [(0, true), (1, true), (2, true), (3, true), (4, true), (5, true), (6, true), (7, true), (8, true), (9, true), (10, true), (11, false), (12, true), (13, true)]
set_option maxRecDepth 100000 in
set_option maxHeartbeats 8000000 in
theorem sIsFaithful_is (A A' : Option Addr) (c c' : Nat) (l l' : List (Int × Int)) (n : Int) (w : World) (hs : SeesE 2 encPoint w w.heap.size A l) (hs' : SeesE 2 encPoint w w.heap.size A' l') (hl : l.length ≤ 1099511627776) (hl' : l'.length ≤ 1099511627776) (z : Bool) (hz : faithV l l' n = z) :
    Calls Try.prog 15 #[.slice A l.length c, .slice A' l'.length c', .int .i64 n] w fun e w' => e = .returned (.bool z) ∧ Below w.heap.size w w' := by
  have HS := Lib.hid hs; have HS' := Lib.hid hs'; clear hs hs'
  have HZ := Lib.hid ((faith_ends l l' n).symm.trans hz); clear hz
  obtain ⟨t, ht⟩ : ∃ t, (!(isLn l && (isLn l' && endsV l l'))) = t := ⟨_, rfl⟩
  have HT0 := Lib.hid ht; clear ht
  go_enter Try.func15, Try.ntmps15
  go_upto_region 1 with fail
  go_cut [42] (fun v wx => v = .bool t ∧ Hid (Below w.heap.size w wx))
  case first =>
    have HB : Hid (Below w.heap.size w w.drew) := Lib.hid (Below.refl _ _).drew
    cases h1 : isLn l
    · have HT : Hid (true = t) := Lib.hid (by rw [← HT0.out, h1]; rfl)
      refine wp_region_held_drew (S := (fun _ => True)) (by kernel_rfl) trivial (fun hHeld => ?_)
      refine to_lin (T := faithST) (n := 32) faithSS ⟨by kernel_rfl, by kernel_rfl, by kernel_rfl⟩ (by kernel_rfl) (fun hTag => ?_)
      (refine lin_on (v := ?_) rfl (fun _ _ _ h => h) (by rfl) ?_ (by assumption) ?_; rotate_left; (· (intro wq hSw; go_simp; try with_reducible rfl)); try simp only [Act.put, List.setIfInBounds_toArray, List.set_cons_zero, List.set_cons_succ])
      refine lin_call rfl (by rfl) (fun K hK => ?_)
      go_simp
      go_at_call 27
      refine (sIsLine_is A c l _ ((HS.out.below HB.out).mono HB.out.size) hl _ h1).mono ?_
      rintro e9 w9 ⟨rfl, hb9⟩
      have HB := Lib.hid (HB.out.trans (hb9.mono HB.out.size))
      clear hb9
      go_wp2_with fail
      refine hK.out _ _ ?_ (fun hHeld => ?_)
      · exact trivial
      clear hK K
      try simp only [Act.put, List.setIfInBounds_toArray, List.set_cons_zero, List.set_cons_succ]
      iterate 2 (refine lin_on (v := ?_) rfl (fun _ _ _ h => h) (by rfl) ?_ (by assumption) ?_; rotate_left; (· (intro wq hSw; go_simp; try with_reducible rfl)); try simp only [Act.put, List.setIfInBounds_toArray, List.set_cons_zero, List.set_cons_succ])
      (refine lin_off rfl (fun _ _ _ h => h) (by rfl) (by assumption) ?_; try simp only [Act.put, List.setIfInBounds_toArray, List.set_cons_zero, List.set_cons_succ])
      (refine lin_skip rfl (by rfl) (by assumption) ?_; try simp only [Act.put, List.setIfInBounds_toArray, List.set_cons_zero, List.set_cons_succ])
      (refine lin_off rfl (fun _ _ _ h => h) (by rfl) (by assumption) ?_; try simp only [Act.put, List.setIfInBounds_toArray, List.set_cons_zero, List.set_cons_succ])
      iterate 2 (refine lin_on (v := ?_) rfl (fun _ _ _ h => h) (by rfl) ?_ (by assumption) ?_; rotate_left; (· (intro wq hSw; go_simp; try with_reducible rfl)); try simp only [Act.put, List.setIfInBounds_toArray, List.set_cons_zero, List.set_cons_succ])
      iterate 7 (refine lin_off rfl (fun _ _ _ h => h) (by rfl) (by assumption) ?_; try simp only [Act.put, List.setIfInBounds_toArray, List.set_cons_zero, List.set_cons_succ])
      iterate 2 (refine lin_on (v := ?_) rfl (fun _ _ _ h => h) (by rfl) ?_ (by assumption) ?_; rotate_left; (· (intro wq hSw; go_simp; try with_reducible rfl)); try simp only [Act.put, List.setIfInBounds_toArray, List.set_cons_zero, List.set_cons_succ])
      iterate 13 (refine lin_off rfl (fun _ _ _ h => h) (by rfl) (by assumption) ?_; try simp only [Act.put, List.setIfInBounds_toArray, List.set_cons_zero, List.set_cons_succ])
      (refine lin_on (v := ?_) rfl (fun _ _ _ h => h) (by rfl) ?_ (by assumption) ?_; rotate_left; (· (intro wq hSw; go_simp; try with_reducible rfl)); try simp only [Act.put, List.setIfInBounds_toArray, List.set_cons_zero, List.set_cons_succ])
      refine lin_done ?_
      go_wp2_with fail
      go_meet
      exact ⟨by rw [← HT.out], HB⟩
    cases h2 : isLn l'
    · have HT : Hid (true = t) := Lib.hid (by rw [← HT0.out, h1, h2]; rfl)
      refine wp_region_held_drew (S := (fun _ => True)) (by kernel_rfl) trivial (fun hHeld => ?_)
      refine to_lin (T := faithST) (n := 32) faithSS ⟨by kernel_rfl, by kernel_rfl, by kernel_rfl⟩ (by kernel_rfl) (fun hTag => ?_)
      (refine lin_on (v := ?_) rfl (fun _ _ _ h => h) (by rfl) ?_ (by assumption) ?_; rotate_left; (· (intro wq hSw; go_simp; try with_reducible rfl)); try simp only [Act.put, List.setIfInBounds_toArray, List.set_cons_zero, List.set_cons_succ])
      refine lin_call rfl (by rfl) (fun K hK => ?_)
      go_simp
      go_at_call 27
      refine (sIsLine_is A c l _ ((HS.out.below HB.out).mono HB.out.size) hl _ h1).mono ?_
      rintro e9 w9 ⟨rfl, hb9⟩
      have HB := Lib.hid (HB.out.trans (hb9.mono HB.out.size))
      clear hb9
      go_wp2_with fail
      refine hK.out _ _ ?_ (fun hHeld => ?_)
      · exact trivial
      clear hK K
      try simp only [Act.put, List.setIfInBounds_toArray, List.set_cons_zero, List.set_cons_succ]
      iterate 3 (refine lin_on (v := ?_) rfl (fun _ _ _ h => h) (by rfl) ?_ (by assumption) ?_; rotate_left; (· (intro wq hSw; go_simp; try with_reducible rfl)); try simp only [Act.put, List.setIfInBounds_toArray, List.set_cons_zero, List.set_cons_succ])
      refine lin_call rfl (by rfl) (fun K hK => ?_)
      go_simp
      go_at_call 27
      refine (sIsLine_is A' c' l' _ ((HS'.out.below HB.out).mono HB.out.size) hl' _ h2).mono ?_
      rintro e9 w9 ⟨rfl, hb9⟩
      have HB := Lib.hid (HB.out.trans (hb9.mono HB.out.size))
      clear hb9
      go_wp2_with fail
      refine hK.out _ _ ?_ (fun hHeld => ?_)
      · exact trivial
      clear hK K
      try simp only [Act.put, List.setIfInBounds_toArray, List.set_cons_zero, List.set_cons_succ]
      iterate 3 (refine lin_on (v := ?_) rfl (fun _ _ _ h => h) (by rfl) ?_ (by assumption) ?_; rotate_left; (· (intro wq hSw; go_simp; try with_reducible rfl)); try simp only [Act.put, List.setIfInBounds_toArray, List.set_cons_zero, List.set_cons_succ])
      iterate 7 (refine lin_off rfl (fun _ _ _ h => h) (by rfl) (by assumption) ?_; try simp only [Act.put, List.setIfInBounds_toArray, List.set_cons_zero, List.set_cons_succ])
      iterate 2 (refine lin_on (v := ?_) rfl (fun _ _ _ h => h) (by rfl) ?_ (by assumption) ?_; rotate_left; (· (intro wq hSw; go_simp; try with_reducible rfl)); try simp only [Act.put, List.setIfInBounds_toArray, List.set_cons_zero, List.set_cons_succ])
      iterate 13 (refine lin_off rfl (fun _ _ _ h => h) (by rfl) (by assumption) ?_; try simp only [Act.put, List.setIfInBounds_toArray, List.set_cons_zero, List.set_cons_succ])
      (refine lin_on (v := ?_) rfl (fun _ _ _ h => h) (by rfl) ?_ (by assumption) ?_; rotate_left; (· (intro wq hSw; go_simp; try with_reducible rfl)); try simp only [Act.put, List.setIfInBounds_toArray, List.set_cons_zero, List.set_cons_succ])
      refine lin_done ?_
      go_wp2_with fail
      go_meet
      exact ⟨by rw [← HT.out], HB⟩
    have hn0 : 0 < l.length := by have := (isLn_yes h1).1; omega
    have hn1 : 0 < l'.length := by have := (isLn_yes h2).1; omega
    obtain ⟨b, off, p0, p1, r0, r1, rfl, hb, e0, e1, c0, c1, c2, c3⟩ := endsC HS.out hn0
    obtain ⟨b', off', q0, q1, s0, s1, rfl, hb', e0', e1', d0, d1, d2, d3⟩ := endsC HS'.out hn1
    have HE : Hid (endsV l l' = ((decide (p0 = q0) && decide (p1 = q1)) && (decide (r0 = s0) && decide (r1 = s1)))) := Lib.hid (by unfold endsV; rw [e0, e1, e0', e1', pair_dec, pair_dec])
    obtain ⟨m, hm⟩ : ∃ m, l.length - 1 = m := ⟨_, rfl⟩
    obtain ⟨m', hm'⟩ : ∃ m, l'.length - 1 = m := ⟨_, rfl⟩
    rw [hm] at c2 c3; rw [hm'] at d2 d3
    have HQ : Hid (∀ W, Below w.heap.size w W → (W.cell? ⟨b, off, none⟩ = some (.int .i64 p0) ∧ W.cell? ⟨b, off + 1, none⟩ = some (.int .i64 p1) ∧ W.cell? ⟨b', off', none⟩ = some (.int .i64 q0) ∧ W.cell? ⟨b', off' + 1, none⟩ = some (.int .i64 q1)) ∧ W.cell? ⟨b, off + m * 2, none⟩ = some (.int .i64 r0) ∧ W.cell? ⟨b, off + m * 2 + 1, none⟩ = some (.int .i64 r1) ∧ W.cell? ⟨b', off' + m' * 2, none⟩ = some (.int .i64 s0) ∧ W.cell? ⟨b', off' + m' * 2 + 1, none⟩ = some (.int .i64 s1)) := Lib.hid fun W hW => by
      have x := fun o => hW.cell (p := ⟨b, o, none⟩) hb
      have x' := fun o => hW.cell (p := ⟨b', o, none⟩) hb'
      exact ⟨⟨(x _).trans c0, (x _).trans c1, (x' _).trans d0, (x' _).trans d1⟩, (x _).trans c2, (x _).trans c3, (x' _).trans d2, (x' _).trans d3⟩
    have i0 : (0 : Int) < (l.length : Int) := by omega
    have i1 : (0 : Int) < (l'.length : Int) := by omega
    have i2 : (l.length : Int) - 1 = (m : Int) := by omega
    have i3 : (l'.length : Int) - 1 = (m' : Int) := by omega
    have i4 : (m : Int) < (l.length : Int) := by omega
    have i5 : (m' : Int) < (l'.length : Int) := by omega
    have i6 : IntKind.i64.wrap (m : Int) = (m : Int) := by rw [IntKind.wrap_i64]; omega
    have i7 : IntKind.i64.wrap (m' : Int) = (m' : Int) := by rw [IntKind.wrap_i64]; omega
    have hp0 := ptNeq p0 p1 q0 q1
    have hp1 := ptNeq r0 r1 s0 s1
    clear e0 e1 e0' e1' c0 c1 c2 c3 d0 d1 d2 d3 hm hm'
    cases h3 : (decide (p0 = q0) && decide (p1 = q1))
    · rw [h3, Bool.not_false] at hp0
      have HT : Hid (true = t) := Lib.hid (by rw [← HT0.out, h1, h2, HE.out, h3]; rfl)
      clear HT0 HE hp1
      refine wp_region_held_drew (S := (fun w' => (w'.cell? ⟨b, off, none⟩ = some (.int .i64 p0) ∧ w'.cell? ⟨b, off + 1, none⟩ = some (.int .i64 p1) ∧ w'.cell? ⟨b', off', none⟩ = some (.int .i64 q0) ∧ w'.cell? ⟨b', off' + 1, none⟩ = some (.int .i64 q1)) ∧ w'.cell? ⟨b, off + m * 2, none⟩ = some (.int .i64 r0) ∧ w'.cell? ⟨b, off + m * 2 + 1, none⟩ = some (.int .i64 r1) ∧ w'.cell? ⟨b', off' + m' * 2, none⟩ = some (.int .i64 s0) ∧ w'.cell? ⟨b', off' + m' * 2 + 1, none⟩ = some (.int .i64 s1))) (by kernel_rfl) (HQ.out _ HB.out) (fun hHeld => ?_)
      refine to_lin (T := faithST) (n := 32) faithSS ⟨by kernel_rfl, by kernel_rfl, by kernel_rfl⟩ (by kernel_rfl) (fun hTag => ?_)
      (refine lin_on (v := ?_) rfl (fun _ _ _ h => h) (by rfl) ?_ (by assumption) ?_; rotate_left; (· (intro wq hSw; go_simp; try with_reducible rfl)); try simp only [Act.put, List.setIfInBounds_toArray, List.set_cons_zero, List.set_cons_succ])
      refine lin_call rfl (by rfl) (fun K hK => ?_)
      go_simp
      go_at_call 27
      refine (sIsLine_is _ c l _ ((HS.out.below HB.out).mono HB.out.size) hl _ h1).mono ?_
      rintro e9 w9 ⟨rfl, hb9⟩
      have HB := Lib.hid (HB.out.trans (hb9.mono HB.out.size))
      clear hb9
      go_wp2_with fail
      refine hK.out _ _ ?_ (fun hHeld => ?_)
      · exact (HQ.out _ HB.out)
      clear hK K
      try simp only [Act.put, List.setIfInBounds_toArray, List.set_cons_zero, List.set_cons_succ]
      iterate 3 (refine lin_on (v := ?_) rfl (fun _ _ _ h => h) (by rfl) ?_ (by assumption) ?_; rotate_left; (· (intro wq hSw; go_simp; try with_reducible rfl)); try simp only [Act.put, List.setIfInBounds_toArray, List.set_cons_zero, List.set_cons_succ])
      refine lin_call rfl (by rfl) (fun K hK => ?_)
      go_simp
      go_at_call 27
      refine (sIsLine_is _ c' l' _ ((HS'.out.below HB.out).mono HB.out.size) hl' _ h2).mono ?_
      rintro e9 w9 ⟨rfl, hb9⟩
      have HB := Lib.hid (HB.out.trans (hb9.mono HB.out.size))
      clear hb9
      go_wp2_with fail
      refine hK.out _ _ ?_ (fun hHeld => ?_)
      · exact (HQ.out _ HB.out)
      clear hK K
      try simp only [Act.put, List.setIfInBounds_toArray, List.set_cons_zero, List.set_cons_succ]
      iterate 12 (refine lin_on (v := ?_) rfl (fun _ _ _ h => h) (by rfl) ?_ (by assumption) ?_; rotate_left; (· (intro wq hSw; go_simp; try with_reducible rfl)); try simp only [Act.put, List.setIfInBounds_toArray, List.set_cons_zero, List.set_cons_succ])
      iterate 13 (refine lin_off rfl (fun _ _ _ h => h) (by rfl) (by assumption) ?_; try simp only [Act.put, List.setIfInBounds_toArray, List.set_cons_zero, List.set_cons_succ])
      (refine lin_on (v := ?_) rfl (fun _ _ _ h => h) (by rfl) ?_ (by assumption) ?_; rotate_left; (· (intro wq hSw; go_simp; try with_reducible rfl)); try simp only [Act.put, List.setIfInBounds_toArray, List.set_cons_zero, List.set_cons_succ])
      refine lin_done ?_
      go_wp2_with fail
      go_meet
      exact ⟨by rw [← HT.out], HB⟩
    · rw [h3, Bool.not_true] at hp0
      cases h4 : (decide (r0 = s0) && decide (r1 = s1))
      · rw [h4, Bool.not_false] at hp1
        have HT : Hid (true = t) := Lib.hid (by rw [← HT0.out, h1, h2, HE.out, h3, h4]; rfl)
        clear HT0 HE
        refine wp_region_held_drew (S := (fun w' => (w'.cell? ⟨b, off, none⟩ = some (.int .i64 p0) ∧ w'.cell? ⟨b, off + 1, none⟩ = some (.int .i64 p1) ∧ w'.cell? ⟨b', off', none⟩ = some (.int .i64 q0) ∧ w'.cell? ⟨b', off' + 1, none⟩ = some (.int .i64 q1)) ∧ w'.cell? ⟨b, off + m * 2, none⟩ = some (.int .i64 r0) ∧ w'.cell? ⟨b, off + m * 2 + 1, none⟩ = some (.int .i64 r1) ∧ w'.cell? ⟨b', off' + m' * 2, none⟩ = some (.int .i64 s0) ∧ w'.cell? ⟨b', off' + m' * 2 + 1, none⟩ = some (.int .i64 s1))) (by kernel_rfl) (HQ.out _ HB.out) (fun hHeld => ?_)
        refine to_lin (T := faithST) (n := 32) faithSS ⟨by kernel_rfl, by kernel_rfl, by kernel_rfl⟩ (by kernel_rfl) (fun hTag => ?_)
        (refine lin_on (v := ?_) rfl (fun _ _ _ h => h) (by rfl) ?_ (by assumption) ?_; rotate_left; (· (intro wq hSw; go_simp; try with_reducible rfl)); try simp only [Act.put, List.setIfInBounds_toArray, List.set_cons_zero, List.set_cons_succ])
        refine lin_call rfl (by rfl) (fun K hK => ?_)
        go_simp
        go_at_call 27
        refine (sIsLine_is _ c l _ ((HS.out.below HB.out).mono HB.out.size) hl _ h1).mono ?_
        rintro e9 w9 ⟨rfl, hb9⟩
        have HB := Lib.hid (HB.out.trans (hb9.mono HB.out.size))
        clear hb9
        go_wp2_with fail
        refine hK.out _ _ ?_ (fun hHeld => ?_)
        · exact (HQ.out _ HB.out)
        clear hK K
        try simp only [Act.put, List.setIfInBounds_toArray, List.set_cons_zero, List.set_cons_succ]
        iterate 3 (refine lin_on (v := ?_) rfl (fun _ _ _ h => h) (by rfl) ?_ (by assumption) ?_; rotate_left; (· (intro wq hSw; go_simp; try with_reducible rfl)); try simp only [Act.put, List.setIfInBounds_toArray, List.set_cons_zero, List.set_cons_succ])
        refine lin_call rfl (by rfl) (fun K hK => ?_)
        go_simp
        go_at_call 27
        refine (sIsLine_is _ c' l' _ ((HS'.out.below HB.out).mono HB.out.size) hl' _ h2).mono ?_
        rintro e9 w9 ⟨rfl, hb9⟩
        have HB := Lib.hid (HB.out.trans (hb9.mono HB.out.size))
        clear hb9
        go_wp2_with fail
        refine hK.out _ _ ?_ (fun hHeld => ?_)
        · exact (HQ.out _ HB.out)
        clear hK K
        try simp only [Act.put, List.setIfInBounds_toArray, List.set_cons_zero, List.set_cons_succ]
        iterate 26 (refine lin_on (v := ?_) rfl (fun _ _ _ h => h) (by rfl) ?_ (by assumption) ?_; rotate_left; (· (intro wq hSw; go_simp; try with_reducible rfl)); try simp only [Act.put, List.setIfInBounds_toArray, List.set_cons_zero, List.set_cons_succ])
        refine lin_done ?_
        go_wp2_with fail
        go_meet
        exact ⟨by rw [← HT.out], HB⟩
      · rw [h4, Bool.not_true] at hp1
        have HT : Hid (false = t) := Lib.hid (by rw [← HT0.out, h1, h2, HE.out, h3, h4]; rfl)
        clear HT0 HE
        refine wp_region_held_drew (S := (fun w' => (w'.cell? ⟨b, off, none⟩ = some (.int .i64 p0) ∧ w'.cell? ⟨b, off + 1, none⟩ = some (.int .i64 p1) ∧ w'.cell? ⟨b', off', none⟩ = some (.int .i64 q0) ∧ w'.cell? ⟨b', off' + 1, none⟩ = some (.int .i64 q1)) ∧ w'.cell? ⟨b, off + m * 2, none⟩ = some (.int .i64 r0) ∧ w'.cell? ⟨b, off + m * 2 + 1, none⟩ = some (.int .i64 r1) ∧ w'.cell? ⟨b', off' + m' * 2, none⟩ = some (.int .i64 s0) ∧ w'.cell? ⟨b', off' + m' * 2 + 1, none⟩ = some (.int .i64 s1))) (by kernel_rfl) (HQ.out _ HB.out) (fun hHeld => ?_)
        refine to_lin (T := faithST) (n := 32) faithSS ⟨by kernel_rfl, by kernel_rfl, by kernel_rfl⟩ (by kernel_rfl) (fun hTag => ?_)
        (refine lin_on (v := ?_) rfl (fun _ _ _ h => h) (by rfl) ?_ (by assumption) ?_; rotate_left; (· (intro wq hSw; go_simp; try with_reducible rfl)); try simp only [Act.put, List.setIfInBounds_toArray, List.set_cons_zero, List.set_cons_succ])
        refine lin_call rfl (by rfl) (fun K hK => ?_)
        go_simp
        go_at_call 27
        refine (sIsLine_is _ c l _ ((HS.out.below HB.out).mono HB.out.size) hl _ h1).mono ?_
        rintro e9 w9 ⟨rfl, hb9⟩
        have HB := Lib.hid (HB.out.trans (hb9.mono HB.out.size))
        clear hb9
        go_wp2_with fail
        refine hK.out _ _ ?_ (fun hHeld => ?_)
        · exact (HQ.out _ HB.out)
        clear hK K
        try simp only [Act.put, List.setIfInBounds_toArray, List.set_cons_zero, List.set_cons_succ]
        iterate 3 (refine lin_on (v := ?_) rfl (fun _ _ _ h => h) (by rfl) ?_ (by assumption) ?_; rotate_left; (· (intro wq hSw; go_simp; try with_reducible rfl)); try simp only [Act.put, List.setIfInBounds_toArray, List.set_cons_zero, List.set_cons_succ])
        refine lin_call rfl (by rfl) (fun K hK => ?_)
        go_simp
        go_at_call 27
        refine (sIsLine_is _ c' l' _ ((HS'.out.below HB.out).mono HB.out.size) hl' _ h2).mono ?_
        rintro e9 w9 ⟨rfl, hb9⟩
        have HB := Lib.hid (HB.out.trans (hb9.mono HB.out.size))
        clear hb9
        go_wp2_with fail
        refine hK.out _ _ ?_ (fun hHeld => ?_)
        · exact (HQ.out _ HB.out)
        clear hK K
        try simp only [Act.put, List.setIfInBounds_toArray, List.set_cons_zero, List.set_cons_succ]
        iterate 26 (refine lin_on (v := ?_) rfl (fun _ _ _ h => h) (by rfl) ?_ (by assumption) ?_; rotate_left; (· (intro wq hSw; go_simp; try with_reducible rfl)); try simp only [Act.put, List.setIfInBounds_toArray, List.set_cons_zero, List.set_cons_succ])
        refine lin_done ?_
        go_wp2_with fail
        go_meet
        exact ⟨by rw [← HT.out], HB⟩
  case rest =>
  obtain ⟨rfl, HB3⟩ := hcut
  cases t
  case true =>
    obtain rfl : false = z := by
      have h := HT0.out
      rw [← HZ.out, ← Bool.and_assoc, ← Bool.and_assoc]
      rw [← Bool.and_assoc] at h
      cases h5 : (isLn l && isLn l' && endsV l l')
      · rfl
      · rw [h5] at h; cases h
    go_wp2
    go_ret
    exact ⟨rfl, HB3.out⟩
  case false =>
  have HZ2 : Hid ((l.all fun p => nearAny (sgV l') p n) = z) := Lib.hid (by
    have h := HT0.out
    rw [← HZ.out, ← Bool.and_assoc, ← Bool.and_assoc]
    rw [← Bool.and_assoc] at h
    cases h5 : (isLn l && isLn l' && endsV l l')
    · rw [h5] at h; cases h
    · rw [Bool.true_and])
  have HS3' := Lib.hid ((HS'.out.below HB3.out).mono HB3.out.size)
  clear HZ HT0 HS'
  go_wp2_with fail
  refine (sSegmentsOf_any A' c' l' _ HS3'.out hl').mono ?_
  rintro e w4 ⟨A4, c4, G, hG, rfl, ho4, hb4⟩
  have HG := Lib.hid (ho4.sees elSegment)
  have HB4 := Lib.hid (HB3.out.trans (hb4.mono HB3.out.size))
  have HS4 := Lib.hid (HS.out.below HB4.out)
  have hGl : G.length ≤ 1099511627776 := by rw [hG.out]; have := sgV_len l'; omega
  replace HZ2 : Hid ((l.all fun p => nearAny G p n) = z) := Lib.hid (by rw [hG.out]; exact HZ2.out)
  clear ho4 hb4 HS3' HB3 hG
  go_wp2
  go_loopw [8, 9, 10] (fun s8 _ _ wr => ∃ i : Nat, i ≤ l.length ∧ s8 = .int .i64 (i : Int) ∧ Hid (((l.take i).all fun p => nearAny G p n) = true) ∧ Hid (Below w.heap.size w wr) ∧ Hid (Below w4.heap.size w4 wr)) (fun s8 _ _ _ => l.length - (intOf s8).toNat)
  case atStart => exact ⟨0, Nat.zero_le _, rfl, Lib.hid (by simp), HB4, Lib.hid (Below.refl _ _)⟩
  case round =>
    obtain ⟨i, hi, rfl, HN, HBo, HBr⟩ := hrel
    by_cases hlt : i < l.length
    · have hlt' : (i : Int) < (l.length : Int) := by omega
      obtain ⟨b, off, ⟨t0, t1⟩, rfl, hbl, hx, -⟩ := HS4.out.lt hlt
      have HX := Lib.hid hx
      have hPs := cellsPoint HS4.out hx
      have HPs := Lib.hid hPs
      have hb4 : b < w4.heap.size := Nat.lt_of_lt_of_le hbl HB4.out.size
      clear hx hPs
      go_wp2
      go_loopw [9, 10] (fun s9 s10 wx => ∃ k : Nat, k ≤ G.length ∧ s10 = .int .i64 (k : Int) ∧ s9 = .bool (nearAny (G.take k) (t0, t1) n) ∧ Hid (Below w.heap.size w wx) ∧ Hid (Below w4.heap.size w4 wx)) (fun _ s10 _ => G.length - (intOf s10).toNat)
      case atStart => exact ⟨0, Nat.zero_le _, rfl, by simp [nearAny], HBo, HBr⟩
      case round =>
        obtain ⟨k, hk, rfl, rfl, HBo, HBr⟩ := hrel
        obtain ⟨u, hu⟩ : ∃ u, nearAny (G.take k) (t0, t1) n = u := ⟨_, rfl⟩
        have HU0 := Lib.hid hu
        rw [hu]
        clear hu
        by_cases hkt : k < G.length
        · have hkt' : (k : Int) < (G.length : Int) := by omega
          obtain ⟨bg, og, ⟨g0, g1, g2, g3⟩, rfl, hbg, hgx, -⟩ := HG.out.lt hkt
          have hGs := cellsSegment HG.out hgx
          have HGx := Lib.hid hgx
          obtain ⟨y, hy⟩ : ∃ y, nearV g0 g1 g2 g3 t0 t1 n = y := ⟨_, rfl⟩
          have HY := Lib.hid hy
          have HN1 : Hid (nearAny (G.take (k + 1)) (t0, t1) n = (u || y)) := Lib.hid (by
            have h1 := HU0.out
            unfold nearAny at h1 ⊢
            rw [List.take_add_one, HGx.out, List.any_append, h1]
            simp [hy])
          clear hgx hy
          go_wp2_with fail
          go_upto_region 11 with fail
          have HB : Hid (Below wr.heap.size wr wr.drew) := Lib.hid (Below.refl _ _).drew
          cases u
          · have HQ : Hid (∀ W, Below wr.heap.size wr W → (W.cell? ⟨bg, og + k * 4, none⟩ = some (.int .i64 g0) ∧ W.cell? ⟨bg, og + k * 4 + 1, none⟩ = some (.int .i64 g1) ∧ W.cell? ⟨bg, og + k * 4 + 2, none⟩ = some (.int .i64 g2) ∧ W.cell? ⟨bg, og + k * 4 + 3, none⟩ = some (.int .i64 g3)) ∧ W.cell? ⟨b, off + i * 2, none⟩ = some (.int .i64 t0) ∧ W.cell? ⟨b, off + i * 2 + 1, none⟩ = some (.int .i64 t1)) := Lib.hid fun W hW => by
              have x := fun o => (hW.cell (p := ⟨bg, o, none⟩) (Nat.lt_of_lt_of_le hbg HBr.out.size)).trans (HBr.out.cell (p := ⟨bg, o, none⟩) hbg)
              have x' := fun o => (hW.cell (p := ⟨b, o, none⟩) (Nat.lt_of_lt_of_le hb4 HBr.out.size)).trans (HBr.out.cell (p := ⟨b, o, none⟩) hb4)
              exact ⟨⟨(x _).trans hGs.1, (x _).trans hGs.2.1, (x _).trans hGs.2.2.1, (x _).trans hGs.2.2.2⟩, (x' _).trans HPs.out.1, (x' _).trans HPs.out.2⟩
            clear hGs
            refine wp_region_held_drew (S := (fun w' => (w'.cell? ⟨bg, og + k * 4, none⟩ = some (.int .i64 g0) ∧ w'.cell? ⟨bg, og + k * 4 + 1, none⟩ = some (.int .i64 g1) ∧ w'.cell? ⟨bg, og + k * 4 + 2, none⟩ = some (.int .i64 g2) ∧ w'.cell? ⟨bg, og + k * 4 + 3, none⟩ = some (.int .i64 g3)) ∧ w'.cell? ⟨b, off + i * 2, none⟩ = some (.int .i64 t0) ∧ w'.cell? ⟨b, off + i * 2 + 1, none⟩ = some (.int .i64 t1))) (by kernel_rfl) (HQ.out _ HB.out) (fun hHeld => ?_)
            refine to_lin (T := faithNT) (n := 14) faithNS ⟨by kernel_rfl, by kernel_rfl, by kernel_rfl⟩ (by kernel_rfl) (fun hTag => ?_)
            iterate 11 (refine lin_on (v := ?_) rfl (fun _ _ _ h => h) (by rfl) ?_ (by assumption) ?_; rotate_left; (· (intro wq hSw; go_simp; try with_reducible rfl)); try simp only [Act.put, List.setIfInBounds_toArray, List.set_cons_zero, List.set_cons_succ])
            refine lin_call rfl (by rfl) (fun K hK => ?_)
            go_simp
            go_at_call 6
            refine (sIsNear_is g0 g1 g2 g3 t0 t1 n y _ HY.out).mono ?_
            rintro e9 w9 ⟨rfl, hb9⟩
            have HB := Lib.hid (HB.out.trans (hb9.mono HB.out.size))
            clear hb9
            go_wp2_with fail
            refine hK.out _ _ ?_ (fun hHeld => ?_)
            · exact HQ.out _ HB.out
            clear hK K
            try simp only [Act.put, List.setIfInBounds_toArray, List.set_cons_zero, List.set_cons_succ]
            iterate 2 (refine lin_on (v := ?_) rfl (fun _ _ _ h => h) (by rfl) ?_ (by assumption) ?_; rotate_left; (· (intro wq hSw; go_simp; try with_reducible rfl)); try simp only [Act.put, List.setIfInBounds_toArray, List.set_cons_zero, List.set_cons_succ])
            refine lin_done ?_
            go_wp2
            go_roundw
            case rel => exact ⟨k + 1, by omega, by go_num, by rw [HN1.out]; rfl, Lib.hid (HBo.out.trans (HB.out.mono HBo.out.size)), Lib.hid (HBr.out.trans (HB.out.mono HBr.out.size))⟩
            case measure => simp [intOf]; omega
          · clear hGs
            refine wp_region_held_drew (S := (fun _ => True)) (by kernel_rfl) trivial (fun hHeld => ?_)
            refine to_lin (T := faithNT) (n := 14) faithNS ⟨by kernel_rfl, by kernel_rfl, by kernel_rfl⟩ (by kernel_rfl) (fun hTag => ?_)
            iterate 2 (refine lin_on (v := ?_) rfl (fun _ _ _ h => h) (by rfl) ?_ (by assumption) ?_; rotate_left; (· (intro wq hSw; go_simp; try with_reducible rfl)); try simp only [Act.put, List.setIfInBounds_toArray, List.set_cons_zero, List.set_cons_succ])
            iterate 9 (refine lin_off rfl (fun _ _ _ h => h) (by rfl) (by assumption) ?_; try simp only [Act.put, List.setIfInBounds_toArray, List.set_cons_zero, List.set_cons_succ])
            (refine lin_skip rfl (by rfl) (by assumption) ?_; try simp only [Act.put, List.setIfInBounds_toArray, List.set_cons_zero, List.set_cons_succ])
            iterate 2 (refine lin_on (v := ?_) rfl (fun _ _ _ h => h) (by rfl) ?_ (by assumption) ?_; rotate_left; (· (intro wq hSw; go_simp; try with_reducible rfl)); try simp only [Act.put, List.setIfInBounds_toArray, List.set_cons_zero, List.set_cons_succ])
            refine lin_done ?_
            go_wp2
            go_roundw
            case rel => exact ⟨k + 1, by omega, by go_num, by rw [HN1.out]; rfl, Lib.hid (HBo.out.trans (HB.out.mono HBo.out.size)), Lib.hid (HBr.out.trans (HB.out.mono HBr.out.size))⟩
            case measure => simp [intOf]; omega
        · obtain rfl : k = G.length := by omega
          have hkt' : ¬ (G.length : Int) < (G.length : Int) := by omega
          have HU1 : Hid (nearAny G (t0, t1) n = u) := Lib.hid (by have := HU0.out; rwa [List.take_length] at this)
          cases u
          · obtain rfl : false = z := by
              rw [← HZ2.out]
              symm
              rw [List.all_eq_false]
              exact ⟨_, List.mem_of_getElem? HX.out, by rw [HU1.out]; simp⟩
            go_wp2
            go_ret
            exact ⟨rfl, HBo.out⟩
          · have HNx : Hid (((l.take (i + 1)).all fun p => nearAny G p n) = true) := Lib.hid (by
              rw [List.take_add_one, HX.out, List.all_append, HN.out]
              simp [HU1.out])
            go_wp2
            go_roundw
            case rel => exact ⟨i + 1, by omega, by go_num, HNx, HBo, HBr⟩
            case measure => simp [intOf]; omega
    · obtain rfl : i = l.length := by omega
      have hlt' : ¬ (l.length : Int) < (l.length : Int) := by omega
      obtain rfl : true = z := by rw [← HZ2.out]; have := HN.out; rw [List.take_length] at this; exact this.symm
      go_wp2
      go_ret
      exact ⟨rfl, HBo.out⟩
end Go.Proofs.Ytpbmngbigdaklaa
