/- FnBoxes: its walk. -/
import Derived.Test.YtjnbdbgkecfkcaaBoxS
import Derived.Test.YtjnbdbgkecfkcaaBox3
import Derived.Test.YtjnbdbgkecfkcaaBoxI
import Derived.Test.YtjnbdbgkecfkcaaDrawBox
import Derived.Test.YtjnbdbgkecfkcaaOneVar
import Derived.Test.YtjnbdbgkecfkcaaTabs
import Derived.Deep.CutBlock
namespace Go.Proofs.Ytjnbdbgkecfkcaa
open Go.ChangeShapes Go.WideShapes Go.ChangeAt Go.RowKit
set_option linter.unusedVariables false

theorem drawBoxOf_any (A : Option Addr) (len cap B : Nat) (w : World) (hc : Code w B A len) :
    Calls Try.prog 36 #[.slice A len cap] w (GotLine w) := by
  have HC := Lib.hid hc
  clear hc
  go_enter Try.func36, Try.ntmps36
  go_wp2_with fail
  refine (drawIsLine_any A len cap B _ HC.out).mono ?_
  rintro e w1 ⟨Al, cl, l, rfl, h1, h2, hs, hb⟩
  have HS := Lib.hid hs
  have HB := Lib.hid hb
  clear hs hb
  go_wp2
  go_ret
  exact ⟨Al, cl, l, rfl, h1, h2, HS.out, HB.out⟩
def bxlT : List (Nat × Nat × Nat) := [(0, 53, 128), (0, 54, 256), (3, 55, 13510798882111488), (0, 56, 256), (0, 57, 128), (28, 58, 108086391056891904), (36, 59, 162129586585337856), (96, 60, 288230376151711744), (128, 61, 576460752303423616), (128, 62, 576460752303423744), (896, 63, 4035225266123964416), (128, 64, 576460752303423744), (128, 65, 576460752303423616), (7296, 66, 28246576862867750912), (9344, 67, 42081634918149914624), (16512, 68, 74363437047141629952), (40960, 69, 147573952589676412928), (65536, 70, 295147905179352825984), (65536, 71, 295147905179352826112), (458752, 72, 2066035336255469780992), (589824, 73, 2656331146614175432704), (1048576, 74, 4722366482869645213824), (1048576, 75, 4722366482869645213952), (7340032, 76, 33056565380087516495872), (9437184, 77, 42501298345826806923264), (17891328, 78, 80575378113963321458688), (33619968, 79, 151410875357007999664128)]
def bxlS : List (Nat × Bool) := [(0, true), (1, true), (3, true), (4, true), (2, false), (5, false), (6, true), (7, true), (8, true), (9, true), (11, true), (12, true), (10, false), (13, false), (14, true), (15, true), (16, true), (17, true), (18, true), (19, false), (20, true), (21, true), (22, true), (23, false), (24, true), (25, true), (26, true)]
set_option maxRecDepth 100000 in
set_option maxHeartbeats 4000000 in
theorem law_FnBoxes (A : Option Addr) (len cap : Nat) (w : World) (hc : Code w w.heap.size A len) :
    Calls Try.prog 5 #[.slice A len cap] w fun e w' => e = .returned (.bool true) ∧ Below w.heap.size w w' := by
  have hlen := hc.1
  by_cases hbig : 1048576 < len
  · go_enter Try.func5, Try.ntmps5
    go_wp2_with fail
    refine (big_yes A len cap _ hbig).mono ?_
    rintro e w0 ⟨rfl, rfl⟩
    go_wp2
    go_ret
    exact ⟨rfl, Below.refl _ _⟩
  · go_enter Try.func5, Try.ntmps5
    have HC := Lib.hid hc; clear hc
    go_wp2_with fail
    refine (big_no A len cap _ (by omega)).mono ?_
    rintro e w0 ⟨rfl, rfl⟩
    have HB := Lib.hid (Below.refl w.heap.size w)
    go_wp2_with fail
    refine (drawBoxOf_any A len cap _ _ HC.out).mono ?_
    rintro e w1 ⟨Al, cl, l, rfl, hl1, ⟨hl11, hlcap⟩, hs, hb1⟩
    have HLC := Lib.hid hlcap; clear hlcap
    have HSl := Lib.hid hs; clear hs
    have hll : l.length ≤ 1099511627776 := by omega
    have HB := Lib.hid (HB.out.trans (hb1.mono HB.out.size))
    clear hb1
    obtain ⟨z, hz⟩ : ∃ z, boxOfV l = z := ⟨_, rfl⟩
    have HZ := Lib.hid hz; clear hz
    obtain ⟨⟨z0, z1, z2, z3⟩, zb⟩ := z
    go_wp2_with fail
    refine (boxOf_is Al cl l _ _ HSl.out hll HLC.out.1 HLC.out.2 HZ.out).mono ?_
    rintro e w2 ⟨rfl, hb2⟩
    have HB := Lib.hid (HB.out.trans (hb2.mono HB.out.size))
    have HSl := Lib.hid (HSl.out.belowAll hb2)
    clear hb2
    have HSl' := Lib.hid (HSl.out.belowAll ((Below.refl _ _).alloc (Nat.le_refl _) (.cells (SegC z0 z1 z2 z3) 48)))
    have HB' := Lib.hid (HB.out.alloc HB.out.size (.cells (SegC z0 z1 z2 z3) 48))
    have HZv := Lib.hid (OneV.new (m := 0) w2 (Nat.zero_le _) (SegC z0 z1 z2 z3) 48)
    clear HB; have HB := HB'; clear HB'
    clear HSl; have HSl := HSl'; clear HSl'
    go_upto_block 0 with fail
    go_cut [] (fun wx => Hid (Below w.heap.size w wx))
    case first =>
      cases zb
      · go_wp2_with fail
        go_loopw [6] (fun i wr => i = .int .i64 0 ∧ Hid (Below w.heap.size w wr)) (fun _ _ => 0)
        case atStart => exact ⟨rfl, HB⟩
        case round =>
          obtain ⟨rfl, HB'⟩ := hrel
          have hl0 : (0 : Int) < (l.length : Int) := by omega
          go_wp2
          go_meet
          exact HB'
      · have HIN : Hid (∀ p ∈ l, inBx z0 z1 z2 z3 p.1 p.2 = true) := Lib.hid (boxOf_in HZ.out)
        go_wp2_with fail
        go_loopw [6] (fun i wr => ∃ j : Nat, j ≤ l.length ∧ i = .int .i64 (j : Int) ∧ Hid (Below w.heap.size w wr) ∧ Hid (SeesE 2 encPoint wr wr.heap.size Al l) ∧ Hid (OneV 0 wr w2.heap.size (SegC z0 z1 z2 z3))) (fun i _ => l.length - (intOf i).toNat)
        case atStart => exact ⟨0, Nat.zero_le _, rfl, HB, HSl, HZv⟩
        case round =>
          obtain ⟨j, hj, rfl, HB', HSl', HZ'⟩ := hrel
          clear HB HSl HZv
          by_cases hlt : j < l.length
          · have hlt' : (j : Int) < (l.length : Int) := by omega
            obtain ⟨⟨x, y⟩, hx⟩ : ∃ p, l[j]? = some p := ⟨_, List.getElem?_eq_getElem hlt⟩
            have HI : Hid (inBx z0 z1 z2 z3 x y = true) := Lib.hid (HIN.out (x, y) (List.mem_of_getElem? hx))
            have HX := Lib.hid hx; clear hx
            obtain ⟨b, off, rfl, hbl, -⟩ := HSl'.out j _ HX.out
            obtain ⟨q0, q1⟩ := cellsPoint HSl'.out HX.out
            obtain ⟨k0, k1, k2, k3⟩ := HZ'.out.c4
            have HQD := Lib.hid (cellsPoint HSl'.out.drew HX.out)
            have HKD := Lib.hid HZ'.out.drew.c4
            have HKQ := Lib.hid (And.intro HKD.out HQD.out)
            have j0 : (0 : Int) ≤ (j : Int) := by omega
            go_wp2_with fail
            go_region_held3 (fun w' => (w'.cell? ⟨w2.heap.size, 0, none⟩ = some (.int .i64 z0) ∧ w'.cell? ⟨w2.heap.size, 1, none⟩ = some (.int .i64 z1) ∧ w'.cell? ⟨w2.heap.size, 2, none⟩ = some (.int .i64 z2) ∧ w'.cell? ⟨w2.heap.size, 3, none⟩ = some (.int .i64 z3)) ∧ (w'.cell? ⟨b, off + j * 2, none⟩ = some (.int .i64 x) ∧ w'.cell? ⟨b, off + j * 2 + 1, none⟩ = some (.int .i64 y))) (first | with_reducible exact ⟨⟨k0, k1, k2, k3⟩, q0, q1⟩ | with_reducible exact HKQ.out | with_reducible exact HK9.out | fail) (first
              | (go_at_call 38; refine (inBox_is z0 z1 z2 z3 x y true _ HI.out).mono ?_; rintro e w9 ⟨rfl, hb9⟩; have HB9 := Lib.hid (HB'.out.drew.trans (hb9.mono HB'.out.size)); have HS9 := Lib.hid (HSl'.out.drew.belowAll hb9); have HZ9 := Lib.hid (HZ'.out.drew.next hb9); have HK9 := Lib.hid (And.intro HZ9.out.c4 (cellsPoint HS9.out HX.out))) | fail)
            all_goals
              go_wp2_with fail
              go_roundw
              case rel => exact ⟨j + 1, by omega, by go_num, HB9, HS9, HZ9⟩
              case measure => simp [intOf]; omega
          · have hlt' : ¬ (j : Int) < (l.length : Int) := by omega
            go_wp2
            go_meet
            exact HB'
    case rest =>
    clear HB HZv HSl HZ; have HB := hcut; clear hcut
    go_wp2_with fail
    refine (drawBoxesMeet_any A len cap _ _ (code_below HC.out HB.out)).mono ?_
    rintro e w3 ⟨a, b, c, d, p, q, r, s, rfl, hb3⟩
    have HB := Lib.hid (HB.out.trans (hb3.mono HB.out.size))
    clear hb3
    have HB' := Lib.hid ((HB.out.alloc HB.out.size (.cells (SegC a b c d) 48)).alloc (by have := HB.out.size; simp; omega) (.cells (SegC p q r s) 48))
    clear HB; have HB := HB'; clear HB'
    have HV := Lib.hid (Vars.of2 w3 (SegC a b c d) (SegC p q r s) 48 48)
    obtain ⟨m, hm⟩ : ∃ m, mtB a b c d p q r s = m := ⟨_, rfl⟩
    obtain ⟨o, ho⟩ : ∃ o, ovB a b c d p q r s = o := ⟨_, rfl⟩
    have HM := Lib.hid hm; have HO := Lib.hid ho
    have HM' : Hid (mtB p q r s a b c d = m) := Lib.hid ((mt_comm a b c d p q r s).trans hm)
    have HO' : Hid (ovB p q r s a b c d = o) := Lib.hid ((ov_comm a b c d p q r s).trans ho)
    have HOM : Hid (o = true → m = true) := Lib.hid (fun e => hm.symm.trans (ov_mt (ho.trans e)))
    clear hm ho
    go_upto_region 11 with fail
    generalize ((w3.alloc (.cells (SegC a b c d) 48)).alloc (.cells (SegC p q r s) 48)) = w4 at HB HV ⊢
    go_cut [51] (fun sl wx => sl = .bool false ∧ Hid (Below w.heap.size w wx) ∧ Hid (Vars w3 wx [SegC a b c d, SegC p q r s]))
    case first =>
      have HB := Lib.hid HB.out.drew
      obtain ⟨k0, k1, k2, k3, k4, k5, k6, k7⟩ := HV.out.c44
      have HV := Lib.hid HV.out.drew
      have HK := Lib.hid HV.out.c44
      go_region_held3 (fun w' => w'.cell? ⟨w3.heap.size, 0, none⟩ = some (.int .i64 a) ∧ w'.cell? ⟨w3.heap.size, 1, none⟩ = some (.int .i64 b) ∧ w'.cell? ⟨w3.heap.size, 2, none⟩ = some (.int .i64 c) ∧ w'.cell? ⟨w3.heap.size, 3, none⟩ = some (.int .i64 d) ∧ w'.cell? ⟨w3.heap.size + 1, 0, none⟩ = some (.int .i64 p) ∧ w'.cell? ⟨w3.heap.size + 1, 1, none⟩ = some (.int .i64 q) ∧ w'.cell? ⟨w3.heap.size + 1, 2, none⟩ = some (.int .i64 r) ∧ w'.cell? ⟨w3.heap.size + 1, 3, none⟩ = some (.int .i64 s)) (first | with_reducible exact ⟨k0, k1, k2, k3, k4, k5, k6, k7⟩ | with_reducible exact HK.out | fail) (first
        | (go_at_call 40; refine (boxesMeet_is a b c d p q r s m _ HM.out).mono ?_; rintro e w9 ⟨rfl, hb9⟩; have HB := Lib.hid (HB.out.trans (hb9.mono HB.out.size)); have HV := Lib.hid (HV.out.next hb9); have HK := Lib.hid HV.out.c44)
        | (go_at_call 41; refine (sBoxesMeet_is a b c d p q r s m _ HM.out).mono ?_; rintro e w9 ⟨rfl, hb9⟩; have HB := Lib.hid (HB.out.trans (hb9.mono HB.out.size)); have HV := Lib.hid (HV.out.next hb9); have HK := Lib.hid HV.out.c44) | fail)
      all_goals
        go_wp2_with fail
        go_meet
        exact ⟨by simp, HB, HV⟩
    case rest =>
    obtain ⟨rfl, HB', HV'⟩ := hcut
    clear HB HV; have HB := HB'; have HV := HV'; clear HB' HV'
    go_upto_region 13 with fail
    go_cut [78] (fun sl wx => sl = .bool false ∧ Hid (Below w.heap.size w wx) ∧ Hid (Vars w3 wx [SegC a b c d, SegC p q r s]))
    case first =>
      have HB := Lib.hid HB.out.drew
      have HV := Lib.hid HV.out.drew
      cases o
      · cases m
        · skip
          refine wp_region_held_drew (S := fun w' => w'.cell? ⟨w3.heap.size, 0, none⟩ = some (.int .i64 a) ∧ w'.cell? ⟨w3.heap.size, 1, none⟩ = some (.int .i64 b) ∧ w'.cell? ⟨w3.heap.size, 2, none⟩ = some (.int .i64 c) ∧ w'.cell? ⟨w3.heap.size, 3, none⟩ = some (.int .i64 d) ∧ w'.cell? ⟨w3.heap.size + 1, 0, none⟩ = some (.int .i64 p) ∧ w'.cell? ⟨w3.heap.size + 1, 1, none⟩ = some (.int .i64 q) ∧ w'.cell? ⟨w3.heap.size + 1, 2, none⟩ = some (.int .i64 r) ∧ w'.cell? ⟨w3.heap.size + 1, 3, none⟩ = some (.int .i64 s)) (by kernel_rfl) HV.out.c44 (fun hHeld => ?_)
          refine to_lin (T := bxlT) (n := 27) bxlS ⟨by kernel_rfl, by kernel_rfl, by kernel_rfl⟩ (by kernel_rfl) (fun hTag => ?_)
          iterate 4 (refine lin_on (v := ?_) rfl (fun _ _ _ h => h) (by rfl) ?_ (by assumption) ?_; rotate_left; (· (intro wq hSw; go_simp; try with_reducible rfl)); try simp only [Act.put, List.setIfInBounds_toArray, List.set_cons_zero, List.set_cons_succ])
          refine lin_call rfl (by rfl) (fun K hK => ?_)
          go_simp
          go_at_call 40
          refine (boxesMeet_is a b c d p q r s _ _ HM.out).mono ?_
          rintro e w9 ⟨rfl, hb9⟩
          have HB := Lib.hid (HB.out.trans (hb9.mono HB.out.size))
          have HV := Lib.hid (HV.out.next hb9)
          clear hb9
          go_wp2_with fail
          refine hK.out _ _ ?_ (fun hHeld => ?_)
          · exact HV.out.c44
          clear hK K
          try simp only [Act.put, List.setIfInBounds_toArray, List.set_cons_zero, List.set_cons_succ]
          refine lin_call rfl (by rfl) (fun K hK => ?_)
          go_simp
          go_at_call 40
          refine (boxesMeet_is p q r s a b c d _ _ HM'.out).mono ?_
          rintro e w9 ⟨rfl, hb9⟩
          have HB := Lib.hid (HB.out.trans (hb9.mono HB.out.size))
          have HV := Lib.hid (HV.out.next hb9)
          clear hb9
          go_wp2_with fail
          refine hK.out _ _ ?_ (fun hHeld => ?_)
          · exact HV.out.c44
          clear hK K
          try simp only [Act.put, List.setIfInBounds_toArray, List.set_cons_zero, List.set_cons_succ]
          iterate 6 (refine lin_on (v := ?_) rfl (fun _ _ _ h => h) (by rfl) ?_ (by assumption) ?_; rotate_left; (· (intro wq hSw; go_simp; try with_reducible rfl)); try simp only [Act.put, List.setIfInBounds_toArray, List.set_cons_zero, List.set_cons_succ])
          refine lin_call rfl (by rfl) (fun K hK => ?_)
          go_simp
          go_at_call 42
          refine (boxesOverlap_is a b c d p q r s _ _ HO.out).mono ?_
          rintro e w9 ⟨rfl, hb9⟩
          have HB := Lib.hid (HB.out.trans (hb9.mono HB.out.size))
          have HV := Lib.hid (HV.out.next hb9)
          clear hb9
          go_wp2_with fail
          refine hK.out _ _ ?_ (fun hHeld => ?_)
          · exact HV.out.c44
          clear hK K
          try simp only [Act.put, List.setIfInBounds_toArray, List.set_cons_zero, List.set_cons_succ]
          refine lin_call rfl (by rfl) (fun K hK => ?_)
          go_simp
          go_at_call 42
          refine (boxesOverlap_is p q r s a b c d _ _ HO'.out).mono ?_
          rintro e w9 ⟨rfl, hb9⟩
          have HB := Lib.hid (HB.out.trans (hb9.mono HB.out.size))
          have HV := Lib.hid (HV.out.next hb9)
          clear hb9
          go_wp2_with fail
          refine hK.out _ _ ?_ (fun hHeld => ?_)
          · exact HV.out.c44
          clear hK K
          try simp only [Act.put, List.setIfInBounds_toArray, List.set_cons_zero, List.set_cons_succ]
          iterate 5 (refine lin_on (v := ?_) rfl (fun _ _ _ h => h) (by rfl) ?_ (by assumption) ?_; rotate_left; (· (intro wq hSw; go_simp; try with_reducible rfl)); try simp only [Act.put, List.setIfInBounds_toArray, List.set_cons_zero, List.set_cons_succ])
          refine lin_call rfl (by rfl) (fun K hK => ?_)
          go_simp
          go_at_call 42
          refine (boxesOverlap_is a b c d p q r s _ _ HO.out).mono ?_
          rintro e w9 ⟨rfl, hb9⟩
          have HB := Lib.hid (HB.out.trans (hb9.mono HB.out.size))
          have HV := Lib.hid (HV.out.next hb9)
          clear hb9
          go_wp2_with fail
          refine hK.out _ _ ?_ (fun hHeld => ?_)
          · exact HV.out.c44
          clear hK K
          try simp only [Act.put, List.setIfInBounds_toArray, List.set_cons_zero, List.set_cons_succ]
          (refine lin_on (v := ?_) rfl (fun _ _ _ h => h) (by rfl) ?_ (by assumption) ?_; rotate_left; (· (intro wq hSw; go_simp; try with_reducible rfl)); try simp only [Act.put, List.setIfInBounds_toArray, List.set_cons_zero, List.set_cons_succ])
          iterate 2 (refine lin_off rfl (fun _ _ _ h => h) (by rfl) (by assumption) ?_; try simp only [Act.put, List.setIfInBounds_toArray, List.set_cons_zero, List.set_cons_succ])
          (refine lin_skip rfl (by rfl) (by assumption) ?_; try simp only [Act.put, List.setIfInBounds_toArray, List.set_cons_zero, List.set_cons_succ])
          (refine lin_off rfl (fun _ _ _ h => h) (by rfl) (by assumption) ?_; try simp only [Act.put, List.setIfInBounds_toArray, List.set_cons_zero, List.set_cons_succ])
          iterate 2 (refine lin_on (v := ?_) rfl (fun _ _ _ h => h) (by rfl) ?_ (by assumption) ?_; rotate_left; (· (intro wq hSw; go_simp; try with_reducible rfl)); try simp only [Act.put, List.setIfInBounds_toArray, List.set_cons_zero, List.set_cons_succ])
          refine lin_done ?_
          go_wp2_with fail
          go_meet
          exact ⟨rfl, HB, HV⟩
        · skip
          refine wp_region_held_drew (S := fun w' => w'.cell? ⟨w3.heap.size, 0, none⟩ = some (.int .i64 a) ∧ w'.cell? ⟨w3.heap.size, 1, none⟩ = some (.int .i64 b) ∧ w'.cell? ⟨w3.heap.size, 2, none⟩ = some (.int .i64 c) ∧ w'.cell? ⟨w3.heap.size, 3, none⟩ = some (.int .i64 d) ∧ w'.cell? ⟨w3.heap.size + 1, 0, none⟩ = some (.int .i64 p) ∧ w'.cell? ⟨w3.heap.size + 1, 1, none⟩ = some (.int .i64 q) ∧ w'.cell? ⟨w3.heap.size + 1, 2, none⟩ = some (.int .i64 r) ∧ w'.cell? ⟨w3.heap.size + 1, 3, none⟩ = some (.int .i64 s)) (by kernel_rfl) HV.out.c44 (fun hHeld => ?_)
          refine to_lin (T := bxlT) (n := 27) bxlS ⟨by kernel_rfl, by kernel_rfl, by kernel_rfl⟩ (by kernel_rfl) (fun hTag => ?_)
          iterate 4 (refine lin_on (v := ?_) rfl (fun _ _ _ h => h) (by rfl) ?_ (by assumption) ?_; rotate_left; (· (intro wq hSw; go_simp; try with_reducible rfl)); try simp only [Act.put, List.setIfInBounds_toArray, List.set_cons_zero, List.set_cons_succ])
          refine lin_call rfl (by rfl) (fun K hK => ?_)
          go_simp
          go_at_call 40
          refine (boxesMeet_is a b c d p q r s _ _ HM.out).mono ?_
          rintro e w9 ⟨rfl, hb9⟩
          have HB := Lib.hid (HB.out.trans (hb9.mono HB.out.size))
          have HV := Lib.hid (HV.out.next hb9)
          clear hb9
          go_wp2_with fail
          refine hK.out _ _ ?_ (fun hHeld => ?_)
          · exact HV.out.c44
          clear hK K
          try simp only [Act.put, List.setIfInBounds_toArray, List.set_cons_zero, List.set_cons_succ]
          refine lin_call rfl (by rfl) (fun K hK => ?_)
          go_simp
          go_at_call 40
          refine (boxesMeet_is p q r s a b c d _ _ HM'.out).mono ?_
          rintro e w9 ⟨rfl, hb9⟩
          have HB := Lib.hid (HB.out.trans (hb9.mono HB.out.size))
          have HV := Lib.hid (HV.out.next hb9)
          clear hb9
          go_wp2_with fail
          refine hK.out _ _ ?_ (fun hHeld => ?_)
          · exact HV.out.c44
          clear hK K
          try simp only [Act.put, List.setIfInBounds_toArray, List.set_cons_zero, List.set_cons_succ]
          iterate 6 (refine lin_on (v := ?_) rfl (fun _ _ _ h => h) (by rfl) ?_ (by assumption) ?_; rotate_left; (· (intro wq hSw; go_simp; try with_reducible rfl)); try simp only [Act.put, List.setIfInBounds_toArray, List.set_cons_zero, List.set_cons_succ])
          refine lin_call rfl (by rfl) (fun K hK => ?_)
          go_simp
          go_at_call 42
          refine (boxesOverlap_is a b c d p q r s _ _ HO.out).mono ?_
          rintro e w9 ⟨rfl, hb9⟩
          have HB := Lib.hid (HB.out.trans (hb9.mono HB.out.size))
          have HV := Lib.hid (HV.out.next hb9)
          clear hb9
          go_wp2_with fail
          refine hK.out _ _ ?_ (fun hHeld => ?_)
          · exact HV.out.c44
          clear hK K
          try simp only [Act.put, List.setIfInBounds_toArray, List.set_cons_zero, List.set_cons_succ]
          refine lin_call rfl (by rfl) (fun K hK => ?_)
          go_simp
          go_at_call 42
          refine (boxesOverlap_is p q r s a b c d _ _ HO'.out).mono ?_
          rintro e w9 ⟨rfl, hb9⟩
          have HB := Lib.hid (HB.out.trans (hb9.mono HB.out.size))
          have HV := Lib.hid (HV.out.next hb9)
          clear hb9
          go_wp2_with fail
          refine hK.out _ _ ?_ (fun hHeld => ?_)
          · exact HV.out.c44
          clear hK K
          try simp only [Act.put, List.setIfInBounds_toArray, List.set_cons_zero, List.set_cons_succ]
          iterate 5 (refine lin_on (v := ?_) rfl (fun _ _ _ h => h) (by rfl) ?_ (by assumption) ?_; rotate_left; (· (intro wq hSw; go_simp; try with_reducible rfl)); try simp only [Act.put, List.setIfInBounds_toArray, List.set_cons_zero, List.set_cons_succ])
          refine lin_call rfl (by rfl) (fun K hK => ?_)
          go_simp
          go_at_call 42
          refine (boxesOverlap_is a b c d p q r s _ _ HO.out).mono ?_
          rintro e w9 ⟨rfl, hb9⟩
          have HB := Lib.hid (HB.out.trans (hb9.mono HB.out.size))
          have HV := Lib.hid (HV.out.next hb9)
          clear hb9
          go_wp2_with fail
          refine hK.out _ _ ?_ (fun hHeld => ?_)
          · exact HV.out.c44
          clear hK K
          try simp only [Act.put, List.setIfInBounds_toArray, List.set_cons_zero, List.set_cons_succ]
          (refine lin_on (v := ?_) rfl (fun _ _ _ h => h) (by rfl) ?_ (by assumption) ?_; rotate_left; (· (intro wq hSw; go_simp; try with_reducible rfl)); try simp only [Act.put, List.setIfInBounds_toArray, List.set_cons_zero, List.set_cons_succ])
          iterate 2 (refine lin_off rfl (fun _ _ _ h => h) (by rfl) (by assumption) ?_; try simp only [Act.put, List.setIfInBounds_toArray, List.set_cons_zero, List.set_cons_succ])
          (refine lin_skip rfl (by rfl) (by assumption) ?_; try simp only [Act.put, List.setIfInBounds_toArray, List.set_cons_zero, List.set_cons_succ])
          (refine lin_off rfl (fun _ _ _ h => h) (by rfl) (by assumption) ?_; try simp only [Act.put, List.setIfInBounds_toArray, List.set_cons_zero, List.set_cons_succ])
          iterate 2 (refine lin_on (v := ?_) rfl (fun _ _ _ h => h) (by rfl) ?_ (by assumption) ?_; rotate_left; (· (intro wq hSw; go_simp; try with_reducible rfl)); try simp only [Act.put, List.setIfInBounds_toArray, List.set_cons_zero, List.set_cons_succ])
          refine lin_done ?_
          go_wp2_with fail
          go_meet
          exact ⟨rfl, HB, HV⟩
      · obtain rfl : m = true := HOM.out rfl
        refine wp_region_held_drew (S := fun w' => w'.cell? ⟨w3.heap.size, 0, none⟩ = some (.int .i64 a) ∧ w'.cell? ⟨w3.heap.size, 1, none⟩ = some (.int .i64 b) ∧ w'.cell? ⟨w3.heap.size, 2, none⟩ = some (.int .i64 c) ∧ w'.cell? ⟨w3.heap.size, 3, none⟩ = some (.int .i64 d) ∧ w'.cell? ⟨w3.heap.size + 1, 0, none⟩ = some (.int .i64 p) ∧ w'.cell? ⟨w3.heap.size + 1, 1, none⟩ = some (.int .i64 q) ∧ w'.cell? ⟨w3.heap.size + 1, 2, none⟩ = some (.int .i64 r) ∧ w'.cell? ⟨w3.heap.size + 1, 3, none⟩ = some (.int .i64 s)) (by kernel_rfl) HV.out.c44 (fun hHeld => ?_)
        refine to_lin (T := bxlT) (n := 27) bxlS ⟨by kernel_rfl, by kernel_rfl, by kernel_rfl⟩ (by kernel_rfl) (fun hTag => ?_)
        iterate 4 (refine lin_on (v := ?_) rfl (fun _ _ _ h => h) (by rfl) ?_ (by assumption) ?_; rotate_left; (· (intro wq hSw; go_simp; try with_reducible rfl)); try simp only [Act.put, List.setIfInBounds_toArray, List.set_cons_zero, List.set_cons_succ])
        refine lin_call rfl (by rfl) (fun K hK => ?_)
        go_simp
        go_at_call 40
        refine (boxesMeet_is a b c d p q r s _ _ HM.out).mono ?_
        rintro e w9 ⟨rfl, hb9⟩
        have HB := Lib.hid (HB.out.trans (hb9.mono HB.out.size))
        have HV := Lib.hid (HV.out.next hb9)
        clear hb9
        go_wp2_with fail
        refine hK.out _ _ ?_ (fun hHeld => ?_)
        · exact HV.out.c44
        clear hK K
        try simp only [Act.put, List.setIfInBounds_toArray, List.set_cons_zero, List.set_cons_succ]
        refine lin_call rfl (by rfl) (fun K hK => ?_)
        go_simp
        go_at_call 40
        refine (boxesMeet_is p q r s a b c d _ _ HM'.out).mono ?_
        rintro e w9 ⟨rfl, hb9⟩
        have HB := Lib.hid (HB.out.trans (hb9.mono HB.out.size))
        have HV := Lib.hid (HV.out.next hb9)
        clear hb9
        go_wp2_with fail
        refine hK.out _ _ ?_ (fun hHeld => ?_)
        · exact HV.out.c44
        clear hK K
        try simp only [Act.put, List.setIfInBounds_toArray, List.set_cons_zero, List.set_cons_succ]
        iterate 6 (refine lin_on (v := ?_) rfl (fun _ _ _ h => h) (by rfl) ?_ (by assumption) ?_; rotate_left; (· (intro wq hSw; go_simp; try with_reducible rfl)); try simp only [Act.put, List.setIfInBounds_toArray, List.set_cons_zero, List.set_cons_succ])
        refine lin_call rfl (by rfl) (fun K hK => ?_)
        go_simp
        go_at_call 42
        refine (boxesOverlap_is a b c d p q r s _ _ HO.out).mono ?_
        rintro e w9 ⟨rfl, hb9⟩
        have HB := Lib.hid (HB.out.trans (hb9.mono HB.out.size))
        have HV := Lib.hid (HV.out.next hb9)
        clear hb9
        go_wp2_with fail
        refine hK.out _ _ ?_ (fun hHeld => ?_)
        · exact HV.out.c44
        clear hK K
        try simp only [Act.put, List.setIfInBounds_toArray, List.set_cons_zero, List.set_cons_succ]
        refine lin_call rfl (by rfl) (fun K hK => ?_)
        go_simp
        go_at_call 42
        refine (boxesOverlap_is p q r s a b c d _ _ HO'.out).mono ?_
        rintro e w9 ⟨rfl, hb9⟩
        have HB := Lib.hid (HB.out.trans (hb9.mono HB.out.size))
        have HV := Lib.hid (HV.out.next hb9)
        clear hb9
        go_wp2_with fail
        refine hK.out _ _ ?_ (fun hHeld => ?_)
        · exact HV.out.c44
        clear hK K
        try simp only [Act.put, List.setIfInBounds_toArray, List.set_cons_zero, List.set_cons_succ]
        iterate 5 (refine lin_on (v := ?_) rfl (fun _ _ _ h => h) (by rfl) ?_ (by assumption) ?_; rotate_left; (· (intro wq hSw; go_simp; try with_reducible rfl)); try simp only [Act.put, List.setIfInBounds_toArray, List.set_cons_zero, List.set_cons_succ])
        refine lin_call rfl (by rfl) (fun K hK => ?_)
        go_simp
        go_at_call 42
        refine (boxesOverlap_is a b c d p q r s _ _ HO.out).mono ?_
        rintro e w9 ⟨rfl, hb9⟩
        have HB := Lib.hid (HB.out.trans (hb9.mono HB.out.size))
        have HV := Lib.hid (HV.out.next hb9)
        clear hb9
        go_wp2_with fail
        refine hK.out _ _ ?_ (fun hHeld => ?_)
        · exact HV.out.c44
        clear hK K
        try simp only [Act.put, List.setIfInBounds_toArray, List.set_cons_zero, List.set_cons_succ]
        iterate 3 (refine lin_on (v := ?_) rfl (fun _ _ _ h => h) (by rfl) ?_ (by assumption) ?_; rotate_left; (· (intro wq hSw; go_simp; try with_reducible rfl)); try simp only [Act.put, List.setIfInBounds_toArray, List.set_cons_zero, List.set_cons_succ])
        refine lin_call rfl (by rfl) (fun K hK => ?_)
        go_simp
        go_at_call 40
        refine (boxesMeet_is a b c d p q r s _ _ HM.out).mono ?_
        rintro e w9 ⟨rfl, hb9⟩
        have HB := Lib.hid (HB.out.trans (hb9.mono HB.out.size))
        have HV := Lib.hid (HV.out.next hb9)
        clear hb9
        go_wp2_with fail
        refine hK.out _ _ ?_ (fun hHeld => ?_)
        · exact HV.out.c44
        clear hK K
        try simp only [Act.put, List.setIfInBounds_toArray, List.set_cons_zero, List.set_cons_succ]
        iterate 3 (refine lin_on (v := ?_) rfl (fun _ _ _ h => h) (by rfl) ?_ (by assumption) ?_; rotate_left; (· (intro wq hSw; go_simp; try with_reducible rfl)); try simp only [Act.put, List.setIfInBounds_toArray, List.set_cons_zero, List.set_cons_succ])
        refine lin_done ?_
        go_wp2_with fail
        go_meet
        exact ⟨rfl, HB, HV⟩
    case rest =>
    obtain ⟨rfl, HB', HV'⟩ := hcut
    clear HB HV HM HM' HO HO' HOM; have HB := HB'; have HV := HV'; clear HB' HV'
    obtain ⟨z, hz⟩ : ∃ z, joinV a b c d p q r s = z := ⟨_, rfl⟩
    have HJ := Lib.hid hz; clear hz
    obtain ⟨⟨j0, j1, j2, j3⟩, jb⟩ := z
    obtain ⟨k0, k1, k2, k3, k4, k5, k6, k7⟩ := HV.out.c44
    go_wp2_with fail
    refine (joinBoxes_is a b c d p q r s _ _ HJ.out).mono ?_
    rintro e w6 ⟨rfl, hb6⟩
    clear k0 k1 k2 k3 k4 k5 k6 k7
    have HB := Lib.hid (HB.out.trans (hb6.mono HB.out.size))
    have HV := Lib.hid (HV.out.next hb6)
    clear hb6
    have HB' := Lib.hid (HB.out.alloc HB.out.size (.cells (SegC j0 j1 j2 j3) 48))
    have HV' := Lib.hid (HV.out.al (.cells (SegC j0 j1 j2 j3) 48))
    have HW := Lib.hid (OneV.new (m := 0) w6 (Nat.zero_le _) (SegC j0 j1 j2 j3) 48)
    clear HB; have HB := HB'; clear HB'
    clear HV; have HV := HV'; clear HV'
    go_upto_region 16 with fail
    go_cut [113] (fun sl wx => sl = .bool false ∧ Hid (Below w.heap.size w wx))
    case first =>
      cases jb
      · go_wp2_with fail
        go_meet
        exact ⟨rfl, HB⟩
      · have hin := join_in HJ.out
        have HI1 := Lib.hid (hin (a, b) (by simp)); have HI2 := Lib.hid (hin (c, d) (by simp)); have HI3 := Lib.hid (hin (p, q) (by simp)); have HI4 := Lib.hid (hin (r, s) (by simp))
        clear hin
        obtain ⟨i0, i1, i2, i3⟩ := HW.out.c4
        obtain ⟨k0, k1, k2, k3, k4, k5, k6, k7⟩ := HV.out.c44
        go_wp2_with fail
        refine (inBox_is j0 j1 j2 j3 a b true _ HI1.out).mono ?_
        rintro e w9 ⟨rfl, hb9⟩
        clear i0 i1 i2 i3 k0 k1 k2 k3 k4 k5 k6 k7
        have HB := Lib.hid (HB.out.trans (hb9.mono HB.out.size))
        have HV := Lib.hid (HV.out.next hb9)
        have HW := Lib.hid (HW.out.next hb9)
        clear hb9
        obtain ⟨i0, i1, i2, i3⟩ := HW.out.c4
        obtain ⟨k0, k1, k2, k3, k4, k5, k6, k7⟩ := HV.out.c44
        go_wp2_with fail
        refine (inBox_is j0 j1 j2 j3 c d true _ HI2.out).mono ?_
        rintro e w9 ⟨rfl, hb9⟩
        clear i0 i1 i2 i3 k0 k1 k2 k3 k4 k5 k6 k7
        have HB := Lib.hid (HB.out.trans (hb9.mono HB.out.size))
        have HV := Lib.hid (HV.out.next hb9)
        have HW := Lib.hid (HW.out.next hb9)
        clear hb9
        obtain ⟨i0, i1, i2, i3⟩ := HW.out.c4
        obtain ⟨k0, k1, k2, k3, k4, k5, k6, k7⟩ := HV.out.c44
        go_wp2_with fail
        refine (inBox_is j0 j1 j2 j3 p q true _ HI3.out).mono ?_
        rintro e w9 ⟨rfl, hb9⟩
        clear i0 i1 i2 i3 k0 k1 k2 k3 k4 k5 k6 k7
        have HB := Lib.hid (HB.out.trans (hb9.mono HB.out.size))
        have HV := Lib.hid (HV.out.next hb9)
        have HW := Lib.hid (HW.out.next hb9)
        clear hb9
        obtain ⟨i0, i1, i2, i3⟩ := HW.out.c4
        obtain ⟨k0, k1, k2, k3, k4, k5, k6, k7⟩ := HV.out.c44
        go_wp2_with fail
        refine (inBox_is j0 j1 j2 j3 r s true _ HI4.out).mono ?_
        rintro e w9 ⟨rfl, hb9⟩
        clear i0 i1 i2 i3 k0 k1 k2 k3 k4 k5 k6 k7
        have HB := Lib.hid (HB.out.trans (hb9.mono HB.out.size))
        have HV := Lib.hid (HV.out.next hb9)
        have HW := Lib.hid (HW.out.next hb9)
        clear hb9
        obtain ⟨i0, i1, i2, i3⟩ := HW.out.c4
        obtain ⟨k0, k1, k2, k3, k4, k5, k6, k7⟩ := HV.out.c44
        go_wp2_with fail
        go_meet
        exact ⟨rfl, HB⟩
    case rest =>
    obtain ⟨rfl, HB'⟩ := hcut
    clear HB HV HW HJ; have HB := HB'; clear HB'
    go_wp2_with fail
    refine (drawGrowBox_any A len cap _ _ (code_below HC.out HB.out)).mono ?_
    rintro e w7 ⟨g0, g1, g2, g3, n, rfl, hb7⟩
    have HB := Lib.hid (HB.out.trans (hb7.mono HB.out.size))
    clear hb7
    have HB' := Lib.hid (HB.out.alloc HB.out.size (.cells (SegC g0 g1 g2 g3) 48))
    have HG := Lib.hid (OneV.new (m := 0) w7 (Nat.zero_le _) (SegC g0 g1 g2 g3) 48)
    clear HB; have HB := HB'; clear HB'
    obtain ⟨z, hz⟩ : ∃ z, growV g0 g1 g2 g3 n = z := ⟨_, rfl⟩
    have HGR := Lib.hid hz; clear hz
    obtain ⟨⟨h0, h1, h2, h3⟩, hh⟩ := z
    obtain ⟨k0, k1, k2, k3⟩ := HG.out.c4
    go_wp2_with fail
    refine (growBox_is g0 g1 g2 g3 n _ _ HGR.out).mono ?_
    rintro e w8 ⟨rfl, hb8⟩
    clear k0 k1 k2 k3
    have HB := Lib.hid (HB.out.trans (hb8.mono HB.out.size))
    have HG := Lib.hid (HG.out.next hb8)
    clear hb8
    have HB' := Lib.hid (HB.out.alloc HB.out.size (.cells (SegC h0 h1 h2 h3) 48))
    have HG' := Lib.hid (HG.out.al (.cells (SegC h0 h1 h2 h3) 48))
    have HH := Lib.hid (OneV.new (m := 0) w8 (Nat.zero_le _) (SegC h0 h1 h2 h3) 48)
    clear HB; have HB := HB'; clear HB'
    clear HG; have HG := HG'; clear HG'
    cases hh
    · go_wp2
      go_ret
      exact ⟨rfl, HB.out⟩
    · obtain ⟨e1, e2, e3⟩ := grow_in HGR.out
      have HE1 := Lib.hid e1; have HE2 := Lib.hid e2; have HE3 := Lib.hid e3
      clear e1 e2 e3
      obtain ⟨i0, i1, i2, i3⟩ := HH.out.c4
      obtain ⟨k0, k1, k2, k3⟩ := HG.out.c4
      go_wp2_with fail
      refine (isBox_is h0 h1 h2 h3 true _ HE1.out).mono ?_
      rintro e w9 ⟨rfl, hb9⟩
      clear i0 i1 i2 i3 k0 k1 k2 k3
      have HB := Lib.hid (HB.out.trans (hb9.mono HB.out.size))
      have HG := Lib.hid (HG.out.next hb9)
      have HH := Lib.hid (HH.out.next hb9)
      clear hb9
      obtain ⟨i0, i1, i2, i3⟩ := HH.out.c4
      obtain ⟨k0, k1, k2, k3⟩ := HG.out.c4
      go_wp2_with fail
      refine (inBox_is h0 h1 h2 h3 g0 g1 true _ HE2.out).mono ?_
      rintro e w9 ⟨rfl, hb9⟩
      clear i0 i1 i2 i3 k0 k1 k2 k3
      have HB := Lib.hid (HB.out.trans (hb9.mono HB.out.size))
      have HG := Lib.hid (HG.out.next hb9)
      have HH := Lib.hid (HH.out.next hb9)
      clear hb9
      obtain ⟨i0, i1, i2, i3⟩ := HH.out.c4
      obtain ⟨k0, k1, k2, k3⟩ := HG.out.c4
      go_wp2_with fail
      refine (inBox_is h0 h1 h2 h3 g2 g3 true _ HE3.out).mono ?_
      rintro e w9 ⟨rfl, hb9⟩
      clear i0 i1 i2 i3 k0 k1 k2 k3
      have HB := Lib.hid (HB.out.trans (hb9.mono HB.out.size))
      have HG := Lib.hid (HG.out.next hb9)
      have HH := Lib.hid (HH.out.next hb9)
      clear hb9
      go_wp2
      go_ret
      exact ⟨rfl, HB.out⟩
theorem law_FnBoxes_row (A : Option Addr) (len cap : Nat) (z : List Int) (w : World) (hrow : IsRow .u8 w A len cap z) :
    Calls Try.prog 5 #[.slice A len cap] w fun e w' => e = .returned (.bool true) ∧ Below w.heap.size w w' :=
  law_FnBoxes A len cap w (code_of_row hrow)
end Go.Proofs.Ytjnbdbgkecfkcaa
