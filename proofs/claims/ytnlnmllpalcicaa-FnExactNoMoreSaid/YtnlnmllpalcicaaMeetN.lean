/- NoMore of package impl and of the model. -/
import Derived.Test.YtnlnmllpalcicaaHelpE
import Derived.Test.YtnlnmllpalcicaaTabs
import Derived.LoopTactic
import Derived.Shelf.Abstract
import Derived.Laws.StructEq
import Derived.Deep.LoopGhost
import Derived.Deep.DeepCutAuto
namespace Go.Proofs.Ytnlnmllpalcicaa
open Go.ChangeShapes Go.WideShapes Go.ChangeAt Go.RowKit
set_option linter.unusedVariables false

def hasByT : List (Nat × Nat × Nat) := [(0, 5, 4), (1, 6, 16), (0, 7, 2), (6, 8, 64), (10, 9, 160), (24, 10, 256), (32, 11, 516), (96, 12, 1536), (32, 13, 514), (288, 14, 4608), (672, 15, 10752), (1056, 16, 16896), (4095, 4, 32768)]
def hasByS : List (Nat × Bool) := [(0, true), (2, true), (1, false), (3, false), (4, true), (5, true), (6, true), (7, true), (8, true), (9, true), (10, true), (11, true), (12, true)]

theorem pairOf_is (a b c : Int) (w : World) :
    Calls Try.prog 17 #[MtV a b c] w fun e w' => e = .returned (PtV a b) ∧ Below w.heap.size w w' := by
  go_enter Try.func17, Try.ntmps17
  go_wp2
  refine bodyPost_ret (v := PtV a b) (by simp [results, Try.results17, go_sem]) rfl ⟨rfl, ?_⟩
  exact ((Below.refl _ _).alloc (Nat.le_refl _) _).alloc (by simp) _
theorem pairEql (a b c d : Int) (w : World) : (binOp .eql 38 (PtV a b) (PtV c d)).run Try.prog w = .ok (.bool (decide (a = c) && decide (b = d))) w := by
  have hu := Try.underlying38
  have hi := Try.underlying3
  rw [run_eql_struct, run_equalIn_agg _ _ _ _ _ (by simp [Program.fieldsOf, hu]) (by kernel_rfl)]
  simp [Program.fieldsOf, hu, go_sem, hi]
  by_cases h : a = c <;> by_cases h' : b = d <;> simp [h, h']
set_option maxRecDepth 100000 in
set_option maxHeartbeats 4000000 in
theorem hasBy_is (a b c d e h : Int) (B : Nat) (w : World) (hB : B < w.heap.size) (h0 : w.cell? ⟨B, 0, none⟩ = some (.int .i64 d)) (h1 : w.cell? ⟨B, 1, none⟩ = some (.int .i64 e)) (h2 : w.cell? ⟨B, 2, none⟩ = some (.int .i64 h)) (z : Bool) (hz : geM (d, e, h) (a, b, c) = z) :
    Calls Try.prog 16 #[MtV a b c, .pointer (some ⟨B, 0, none⟩)] w fun e w' => e = .returned (.bool z) ∧ Below w.heap.size w w' := by
  have HB0 := Lib.hid (show Below w.heap.size w (w.alloc (.cells #[.int .i64 a, .int .i64 b, .int .i64 c] 31)) from (Below.refl _ _).alloc (Nat.le_refl _) _)
  have HQ : Hid (∀ W, Below (w.alloc (.cells #[.int .i64 a, .int .i64 b, .int .i64 c] 31)).heap.size (w.alloc (.cells #[.int .i64 a, .int .i64 b, .int .i64 c] 31)) W → (W.cell? ⟨w.heap.size, 0, none⟩ = some (.int .i64 a) ∧ W.cell? ⟨w.heap.size, 1, none⟩ = some (.int .i64 b) ∧ W.cell? ⟨w.heap.size, 2, none⟩ = some (.int .i64 c)) ∧ (W.cell? ⟨B, 0, none⟩ = some (.int .i64 d) ∧ W.cell? ⟨B, 1, none⟩ = some (.int .i64 e) ∧ W.cell? ⟨B, 2, none⟩ = some (.int .i64 h))) := Lib.hid fun W hW => by
    have hs : w.heap.size < (w.alloc (.cells #[.int .i64 a, .int .i64 b, .int .i64 c] 31)).heap.size := by simp
    exact ⟨⟨(hW.cell (p := ⟨w.heap.size, 0, none⟩) hs).trans (by simp [go_sem]), (hW.cell (p := ⟨w.heap.size, 1, none⟩) hs).trans (by simp [go_sem]), (hW.cell (p := ⟨w.heap.size, 2, none⟩) hs).trans (by simp [go_sem])⟩,
      (hW.cell (p := ⟨B, 0, none⟩) (Nat.lt_trans hB hs)).trans ((HB0.out.cell (p := ⟨B, 0, none⟩) hB).trans h0), (hW.cell (p := ⟨B, 1, none⟩) (Nat.lt_trans hB hs)).trans ((HB0.out.cell (p := ⟨B, 1, none⟩) hB).trans h1), (hW.cell (p := ⟨B, 2, none⟩) (Nat.lt_trans hB hs)).trans ((HB0.out.cell (p := ⟨B, 2, none⟩) hB).trans h2)⟩
  have HB := Lib.hid (Below.refl (w.alloc (.cells #[.int .i64 a, .int .i64 b, .int .i64 c] 31)).heap.size (w.alloc (.cells #[.int .i64 a, .int .i64 b, .int .i64 c] 31))).drew
  have HZ := Lib.hid hz
  have hpe := pairEql a b d e
  clear hz h0 h1 h2
  go_enter Try.func16, Try.ntmps16
  by_cases he : a = d ∧ b = e
  · have hq : (decide (a = d) && decide (b = e)) = true := by simp [he]
    rw [hq] at hpe
    have HC : Hid (decide (h ≤ c) = z) := Lib.hid (by rw [← HZ.out]; simp [geM, he])
    clear hq he HZ
    go_upto_region 1 with fail
    refine wp_region_held_drew (S := (fun w' => (w'.cell? ⟨w.heap.size, 0, none⟩ = some (.int .i64 a) ∧ w'.cell? ⟨w.heap.size, 1, none⟩ = some (.int .i64 b) ∧ w'.cell? ⟨w.heap.size, 2, none⟩ = some (.int .i64 c)) ∧ (w'.cell? ⟨B, 0, none⟩ = some (.int .i64 d) ∧ w'.cell? ⟨B, 1, none⟩ = some (.int .i64 e) ∧ w'.cell? ⟨B, 2, none⟩ = some (.int .i64 h)))) (by kernel_rfl) (HQ.out _ HB.out) (fun hHeld => ?_)
    refine to_lin (T := hasByT) (n := 13) hasByS ⟨by kernel_rfl, by kernel_rfl, by kernel_rfl⟩ (by kernel_rfl) (fun hTag => ?_)
    iterate 2 (refine lin_on (v := ?_) rfl (fun _ _ _ h => h) (by rfl) ?_ (by assumption) ?_; rotate_left; (· (intro wq hSw; go_simp; try with_reducible rfl)); try simp only [Act.put, List.setIfInBounds_toArray, List.set_cons_zero, List.set_cons_succ])
    refine lin_call rfl (by rfl) (fun K hK => ?_)
    go_simp
    go_at_call 17
    refine (pairOf_is a b c _).mono ?_
    rintro e9 w9 ⟨rfl, hb9⟩
    have HB := Lib.hid (HB.out.trans (hb9.mono HB.out.size))
    clear hb9
    go_wp2_with fail
    refine hK.out _ _ ?_ (fun hHeld => ?_)
    · exact HQ.out _ HB.out
    clear hK K
    try simp only [Act.put, List.setIfInBounds_toArray, List.set_cons_zero, List.set_cons_succ]
    refine lin_call rfl (by rfl) (fun K hK => ?_)
    go_simp
    go_at_call 17
    refine (pairOf_is d e h _).mono ?_
    rintro e9 w9 ⟨rfl, hb9⟩
    have HB := Lib.hid (HB.out.trans (hb9.mono HB.out.size))
    clear hb9
    go_wp2_with fail
    refine hK.out _ _ ?_ (fun hHeld => ?_)
    · exact HQ.out _ HB.out
    clear hK K
    try simp only [Act.put, List.setIfInBounds_toArray, List.set_cons_zero, List.set_cons_succ]
    iterate 9 (refine lin_on (v := ?_) rfl (fun _ _ _ h => h) (by rfl) ?_ (by assumption) ?_; rotate_left; (· (intro wq hSw; go_simp; try with_reducible rfl)); try simp only [Act.put, List.setIfInBounds_toArray, List.set_cons_zero, List.set_cons_succ])
    refine lin_done ?_
    go_wp2
    go_ret
    exact ⟨by rw [← HC.out]; rfl, (HB0.out).trans (HB.out.mono HB0.out.size)⟩
  · have hq : (decide (a = d) && decide (b = e)) = false := by simpa using he
    rw [hq] at hpe
    have HC : Hid (false = z) := Lib.hid (by rw [← HZ.out]; simp only [geM]; rw [← Bool.and_assoc, hq]; rfl)
    clear hq he HZ
    go_upto_region 1 with fail
    refine wp_region_held_drew (S := (fun w' => (w'.cell? ⟨w.heap.size, 0, none⟩ = some (.int .i64 a) ∧ w'.cell? ⟨w.heap.size, 1, none⟩ = some (.int .i64 b) ∧ w'.cell? ⟨w.heap.size, 2, none⟩ = some (.int .i64 c)) ∧ (w'.cell? ⟨B, 0, none⟩ = some (.int .i64 d) ∧ w'.cell? ⟨B, 1, none⟩ = some (.int .i64 e) ∧ w'.cell? ⟨B, 2, none⟩ = some (.int .i64 h)))) (by kernel_rfl) (HQ.out _ HB.out) (fun hHeld => ?_)
    refine to_lin (T := hasByT) (n := 13) hasByS ⟨by kernel_rfl, by kernel_rfl, by kernel_rfl⟩ (by kernel_rfl) (fun hTag => ?_)
    iterate 2 (refine lin_on (v := ?_) rfl (fun _ _ _ h => h) (by rfl) ?_ (by assumption) ?_; rotate_left; (· (intro wq hSw; go_simp; try with_reducible rfl)); try simp only [Act.put, List.setIfInBounds_toArray, List.set_cons_zero, List.set_cons_succ])
    refine lin_call rfl (by rfl) (fun K hK => ?_)
    go_simp
    go_at_call 17
    refine (pairOf_is a b c _).mono ?_
    rintro e9 w9 ⟨rfl, hb9⟩
    have HB := Lib.hid (HB.out.trans (hb9.mono HB.out.size))
    clear hb9
    go_wp2_with fail
    refine hK.out _ _ ?_ (fun hHeld => ?_)
    · exact HQ.out _ HB.out
    clear hK K
    try simp only [Act.put, List.setIfInBounds_toArray, List.set_cons_zero, List.set_cons_succ]
    refine lin_call rfl (by rfl) (fun K hK => ?_)
    go_simp
    go_at_call 17
    refine (pairOf_is d e h _).mono ?_
    rintro e9 w9 ⟨rfl, hb9⟩
    have HB := Lib.hid (HB.out.trans (hb9.mono HB.out.size))
    clear hb9
    go_wp2_with fail
    refine hK.out _ _ ?_ (fun hHeld => ?_)
    · exact HQ.out _ HB.out
    clear hK K
    try simp only [Act.put, List.setIfInBounds_toArray, List.set_cons_zero, List.set_cons_succ]
    iterate 2 (refine lin_on (v := ?_) rfl (fun _ _ _ h => h) (by rfl) ?_ (by assumption) ?_; rotate_left; (· (intro wq hSw; go_simp; try with_reducible rfl)); try simp only [Act.put, List.setIfInBounds_toArray, List.set_cons_zero, List.set_cons_succ])
    iterate 5 (refine lin_off rfl (fun _ _ _ h => h) (by rfl) (by assumption) ?_; try simp only [Act.put, List.setIfInBounds_toArray, List.set_cons_zero, List.set_cons_succ])
    iterate 2 (refine lin_on (v := ?_) rfl (fun _ _ _ h => h) (by rfl) ?_ (by assumption) ?_; rotate_left; (· (intro wq hSw; go_simp; try with_reducible rfl)); try simp only [Act.put, List.setIfInBounds_toArray, List.set_cons_zero, List.set_cons_succ])
    refine lin_done ?_
    go_wp2
    go_ret
    exact ⟨by rw [← HC.out]; rfl, (HB0.out).trans (HB.out.mono HB0.out.size)⟩
set_option maxRecDepth 100000 in
theorem indexMeet_is (A : Option Addr) (k : Nat) (l : List Mt3) (d e h : Int) (z : Bool) (B : Nat) (w : World) (hB : B < w.heap.size) (h0 : w.cell? ⟨B, 0, none⟩ = some (.int .i64 d)) (h1 : w.cell? ⟨B, 1, none⟩ = some (.int .i64 e)) (h2 : w.cell? ⟨B, 2, none⟩ = some (.int .i64 h)) (hs : SeesE 3 encMeet w w.heap.size A l) (hl : l.length ≤ 1099511627776) (hz : hasM l (d, e, h) = z) :
    Calls Try.prog 18 #[.slice A l.length k, .func (.func 16) #[] #[.pointer (some ⟨B, 0, none⟩)]] w fun e w' => (∃ i : Int, e = .returned (.int .i64 i) ∧ decide (0 ≤ i) = z) ∧ Below w.heap.size w w' := by
  have eg : ∀ args w, (callFunc 16 args).run Try.prog w = .ok (.enter 16 args) w := enters_of Try.func16 (by kernel_rfl) rfl
  have HS := Lib.hid hs; have HZ := Lib.hid hz; have H0 := Lib.hid h0; have H1 := Lib.hid h1; have H2 := Lib.hid h2; have HBs := Lib.hid hB
  clear hs hz h0 h1 h2 hB
  go_enter Try.func18, Try.ntmps18
  go_wp2
  go_loopg [5, 8] l.length (fun g _ s8 wr => ∃ j : Nat, j + g = l.length ∧ s8 = .int .i64 j ∧ Hid ((l.take j).any (geM (d, e, h)) = false) ∧ Hid (Below w.heap.size w wr))
  case atStart => exact ⟨0, by omega, rfl, Lib.hid (by simp), Lib.hid (Below.refl _ _)⟩
  case round =>
    obtain ⟨j, hg, rfl, HN, HB⟩ := hrel
    by_cases hlt : j < l.length
    · have hlt' : (j : Int) < (l.length : Int) := by omega
      obtain ⟨b, off, ⟨t0, t1, t2⟩, rfl, hbl, hx, -⟩ := (HS.out.below HB.out).lt hlt
      obtain ⟨k0, k1, k2⟩ := cellsMeet (HS.out.below HB.out) hx
      have HX := Lib.hid hx
      have G0 := Lib.hid ((HB.out.cell (p := ⟨B, 0, none⟩) HBs.out).trans H0.out)
      have G1 := Lib.hid ((HB.out.cell (p := ⟨B, 1, none⟩) HBs.out).trans H1.out)
      have G2 := Lib.hid ((HB.out.cell (p := ⟨B, 2, none⟩) HBs.out).trans H2.out)
      have HB2 := Lib.hid (Nat.lt_of_lt_of_le HBs.out HB.out.size)
      clear hx
      obtain ⟨y, hy⟩ : ∃ y, geM (d, e, h) (t0, t1, t2) = y := ⟨_, rfl⟩
      have HY := Lib.hid hy
      clear hy
      cases y
      all_goals
        go_wp2_with (go_at_fn 16; refine (hasBy_is t0 t1 t2 d e h B _ HB2.out G0.out G1.out G2.out _ HY.out).mono ?_; rintro e9 w9 ⟨rfl, hb9⟩)
      · have HB9 := Lib.hid (HB.out.trans (hb9.mono HB.out.size))
        have HNx : Hid ((l.take (j + 1)).any (geM (d, e, h)) = false) := Lib.hid (by rw [any_take HX.out, HN.out, HY.out]; rfl)
        go_roundg (l.length - (j + 1))
        case measure => omega
        case rel => exact ⟨j + 1, by omega, by go_num, HNx, HB9⟩
      · obtain rfl : true = z := by
          rw [← HZ.out]
          exact (List.any_eq_true.2 ⟨_, List.mem_of_getElem? HX.out, HY.out⟩).symm
        go_ret
        exact ⟨by first | exact ⟨_, rfl, decide_eq_true (by omega)⟩ | (simp; done) | (simp; omega), HB.out.trans (hb9.mono HB.out.size)⟩
    · obtain rfl : j = l.length := by omega
      have hlt' : ¬ (l.length : Int) < (l.length : Int) := by omega
      obtain rfl : false = z := by rw [← HZ.out]; have := HN.out; rw [List.take_length] at this; exact this.symm
      go_wp2
      go_ret
      exact ⟨by first | exact ⟨_, rfl, rfl⟩ | simp, HB.out⟩
set_option maxRecDepth 100000 in
theorem containsMeet_is (A : Option Addr) (k : Nat) (l : List Mt3) (d e h : Int) (z : Bool) (B : Nat) (w : World) (hB : B < w.heap.size) (h0 : w.cell? ⟨B, 0, none⟩ = some (.int .i64 d)) (h1 : w.cell? ⟨B, 1, none⟩ = some (.int .i64 e)) (h2 : w.cell? ⟨B, 2, none⟩ = some (.int .i64 h)) (hs : SeesE 3 encMeet w w.heap.size A l) (hl : l.length ≤ 1099511627776) (hz : hasM l (d, e, h) = z) :
    Calls Try.prog 15 #[.slice A l.length k, .func (.func 16) #[] #[.pointer (some ⟨B, 0, none⟩)]] w fun e w' => e = .returned (.bool z) ∧ Below w.heap.size w w' := by
  go_enter Try.func15, Try.ntmps15
  go_wp2_with fail
  refine (indexMeet_is A k l d e h z B w hB h0 h1 h2 hs hl hz).mono ?_
  rintro e9 w1 ⟨⟨i, rfl, hi⟩, hb1⟩
  subst hi
  go_wp2
  go_ret
  exact ⟨rfl, hb1⟩
set_option maxRecDepth 100000 in
theorem hasMeet_is (A : Option Addr) (k : Nat) (l : List Mt3) (d e h : Int) (z : Bool) (w : World) (hs : SeesE 3 encMeet w w.heap.size A l) (hl : l.length ≤ 1099511627776) (hz : hasM l (d, e, h) = z) :
    Calls Try.prog 14 #[.slice A l.length k, MtV d e h] w fun e w' => e = .returned (.bool z) ∧ Below w.heap.size w w' := by
  have hmf : ∀ (fn : Fn) (first cap : Array Value) (w : World), (Instr.makeFunc fn first cap).run Try.prog w = .ok (.func fn first cap) w := fun _ _ _ _ => rfl
  have HB := Lib.hid (show Below w.heap.size w (w.alloc (.cells #[.int .i64 d, .int .i64 e, .int .i64 h] 31)) from (Below.refl _ _).alloc (Nat.le_refl _) _)
  have HS := Lib.hid (hs.belowAll HB.out)
  have HZ := Lib.hid hz
  clear hs hz
  go_enter Try.func14, Try.ntmps14
  go_wp2_with fail
  refine (containsMeet_is A k l d e h z w.heap.size _ (by simp) (by simp [go_sem]) (by simp [go_sem]) (by simp [go_sem]) HS.out hl HZ.out).mono ?_
  rintro e9 w1 ⟨rfl, hb1⟩
  have HB1 := Lib.hid (HB.out.trans (hb1.mono HB.out.size))
  clear hb1
  go_wp2
  go_ret
  exact ⟨rfl, HB1.out⟩
set_option maxRecDepth 100000 in
theorem noMore_is (A A' : Option Addr) (k k' : Nat) (l l' : List Mt3) (z : Bool) (w : World) (hs : SeesE 3 encMeet w w.heap.size A l) (hs' : SeesE 3 encMeet w w.heap.size A' l') (hl : l.length ≤ 1099511627776) (hl' : l'.length ≤ 1099511627776) (hz : noMoreV l l' = z) :
    Calls Try.prog 11 #[.slice A l.length k, .slice A' l'.length k'] w fun e w' => e = .returned (.bool z) ∧ Below w.heap.size w w' := by
  have HS := Lib.hid hs; have HS' := Lib.hid hs'; have HZ := Lib.hid hz
  clear hs hs' hz
  go_enter Try.func11, Try.ntmps11
  go_wp2
  go_loopg [9] l.length (fun g i wr => ∃ j : Nat, j + g = l.length ∧ i = .int .i64 j ∧ Hid ((l.take j).all (hasM l') = true) ∧ Hid (Below w.heap.size w wr))
  case atStart => exact ⟨0, by omega, rfl, Lib.hid (by simp), Lib.hid (Below.refl _ _)⟩
  case round =>
    obtain ⟨j, hg, rfl, HN, HB⟩ := hrel
    by_cases hlt : j < l.length
    · have hlt' : (j : Int) < (l.length : Int) := by omega
      obtain ⟨b, off, ⟨t0, t1, t2⟩, rfl, hbl, hx, -⟩ := (HS.out.below HB.out).lt hlt
      obtain ⟨k0, k1, k2⟩ := cellsMeet (HS.out.below HB.out) hx
      have HX := Lib.hid hx
      have HBa := Lib.hid (HB.out.alloc HB.out.size (.cells #[.int .i64 t0, .int .i64 t1, .int .i64 t2] 31))
      have HSa := Lib.hid ((HS'.out.below HBa.out).mono HBa.out.size)
      clear hx
      obtain ⟨y, hy⟩ : ∃ y, hasM l' (t0, t1, t2) = y := ⟨_, rfl⟩
      have HY := Lib.hid hy
      clear hy
      cases y
      all_goals
        go_wp2_with (go_at_call 14; refine (hasMeet_is A' k' l' t0 t1 t2 _ _ HSa.out hl' HY.out).mono ?_; rintro e9 w9 ⟨rfl, hb9⟩)
      · obtain rfl : false = z := by rw [← HZ.out]; exact (all_stop HX.out HY.out).symm
        go_ret
        exact ⟨rfl, HBa.out.trans (hb9.mono HBa.out.size)⟩
      · have HB9 := Lib.hid (HBa.out.trans (hb9.mono HBa.out.size))
        have HNx : Hid ((l.take (j + 1)).all (hasM l') = true) := Lib.hid (by rw [all_take HX.out, HN.out, HY.out]; rfl)
        go_roundg (l.length - (j + 1))
        case measure => omega
        case rel => exact ⟨j + 1, by omega, by go_num, HNx, HB9⟩
    · obtain rfl : j = l.length := by omega
      have hlt' : ¬ (l.length : Int) < (l.length : Int) := by omega
      obtain rfl : true = z := by rw [← HZ.out]; have := HN.out; rw [List.take_length] at this; exact this.symm
      go_wp2
      go_ret
      exact ⟨rfl, HB.out⟩

def noMoreST : List (Nat × Nat × Nat) := [(0, 21, 64), (1, 22, 1048576), (2, 23, 2097153), (2, 24, 2097184), (14, 25, 14680064), (18, 26, 18874368), (34, 27, 35651584), (2, 28, 2097154), (2, 29, 2097280), (386, 30, 404750336), (514, 31, 538968064), (1026, 32, 1075838976), (2114, 33, 2216689664), (4098, 34, 4297064448), (8192, 35, 8589934593), (8192, 36, 8589934624), (57344, 37, 60129542144), (73728, 38, 77309411328), (139264, 39, 146028888064), (8192, 40, 8589934594), (8192, 41, 8589934720), (1581056, 42, 1657857376256), (2105344, 43, 2207613190144), (4202496, 44, 4406636445696), (8658944, 45, 9079560863744), (16785410, 46, 17600778076160), (33562626, 47, 35184374185984), (67108864, 48, 70368744177665), (67108864, 49, 70368744177696), (469762048, 50, 492581209243648), (603979776, 51, 633318697598976), (1140850688, 52, 1196268651020288), (67108864, 53, 70368744177666), (67108864, 54, 70368744177792), (12952010752, 55, 13581167626289152), (17246978048, 56, 18084767253659648), (34426847232, 57, 36099165763141632), (70934069248, 58, 74379762595790848), (137506062338, 59, 144185556822130688), (274877906946, 60, 288230376153808896), (1099511627775, 7, 576460752303423488)]
def noMoreSS : List (Nat × Bool) := [(0, true), (1, true), (2, true), (3, true), (4, true), (5, true), (6, true), (7, true), (8, true), (9, true), (10, true), (11, true), (12, true), (13, true), (14, true), (15, true), (16, true), (17, true), (18, true), (19, true), (20, true), (21, true), (22, true), (23, true), (24, true), (25, true), (26, true), (27, true), (28, true), (29, true), (30, true), (31, true), (32, true), (33, true), (34, true), (35, true), (36, true), (37, true), (38, true), (39, true), (40, true)]

set_option maxRecDepth 100000 in
set_option maxHeartbeats 4000000 in
theorem sNoMore_is (A A' : Option Addr) (c c' : Nat) (l l' : List Mt3) (z : Bool) (w : World) (hs : SeesE 3 encMeet w w.heap.size A l) (hs' : SeesE 3 encMeet w w.heap.size A' l') (hl : l.length ≤ 1099511627776) (hl' : l'.length ≤ 1099511627776) (hz : noMoreV l l' = z) :
    Calls Try.prog 10 #[.slice A l.length c, .slice A' l'.length c'] w fun e w' => e = .returned (.bool z) ∧ Below w.heap.size w w' := by
  have HS := Lib.hid hs; have HS' := Lib.hid hs'; have HZ := Lib.hid hz
  clear hs hs' hz
  go_enter Try.func10, Try.ntmps10
  go_wp2
  go_loopw [5, 6, 7] (fun i _ _ wr => ∃ j : Nat, j ≤ l.length ∧ i = .int .i64 j ∧ Hid ((l.take j).all (hasM l') = true) ∧ Hid (Below w.heap.size w wr)) (fun i _ _ _ => l.length - (intOf i).toNat)
  case atStart => exact ⟨0, Nat.zero_le _, rfl, Lib.hid (by simp), Lib.hid (Below.refl _ _)⟩
  case round =>
    obtain ⟨j, hj, rfl, HN, HB0⟩ := hrel
    by_cases hlt : j < l.length
    · have hlt' : (j : Int) < (l.length : Int) := by omega
      obtain ⟨b, off, ⟨t0, t1, t2⟩, rfl, hbl, hx, -⟩ := (HS.out.below HB0.out).lt hlt
      have HX := Lib.hid hx
      clear hx
      go_wp2
      go_loopw [6, 7] (fun s i wr => ∃ (k : Nat) (q : Bool), k ≤ l'.length ∧ i = .int .i64 k ∧ s = .bool q ∧ Hid ((l'.take k).any (geM (t0, t1, t2)) = q) ∧ Hid (Below w.heap.size w wr)) (fun _ i _ => l'.length - (intOf i).toNat)
      case atStart => exact ⟨0, false, Nat.zero_le _, rfl, rfl, Lib.hid (by simp), HB0⟩
      case round =>
        obtain ⟨k, q, hk, rfl, rfl, HQ, HBk⟩ := hrel
        by_cases hlk : k < l'.length
        · have hlk' : (k : Int) < (l'.length : Int) := by omega
          obtain ⟨b', off', ⟨s0, s1, s2⟩, rfl, hbl', hx', -⟩ := (HS'.out.below HBk.out).lt hlk
          have HB := Lib.hid HBk.out.drew
          obtain ⟨K0, K1, K2⟩ := cellsMeet (HS.out.below HB.out) HX.out
          obtain ⟨K3, K4, K5⟩ := cellsMeet (HS'.out.below HB.out) hx'
          have HX' := Lib.hid hx'
          clear hx'
          cases q
          · by_cases e0 : t0 = s0
            · by_cases e1 : t1 = s1
              · have HNx : Hid ((l'.take (k + 1)).any (geM (t0, t1, t2)) = decide (t2 ≤ s2)) := Lib.hid (by rw [any_take HX'.out, HQ.out]; simp [geM, e0, e1])
                subst e0 e1
                go_upto_region 8 with fail
                refine wp_region_held_drew (S := (fun w' => (w'.cell? ⟨b, off + j * 3, none⟩ = some (.int .i64 t0) ∧ w'.cell? ⟨b, off + j * 3 + 1, none⟩ = some (.int .i64 t1) ∧ w'.cell? ⟨b, off + j * 3 + 2, none⟩ = some (.int .i64 t2)) ∧ (w'.cell? ⟨b', off' + k * 3, none⟩ = some (.int .i64 t0) ∧ w'.cell? ⟨b', off' + k * 3 + 1, none⟩ = some (.int .i64 t1) ∧ w'.cell? ⟨b', off' + k * 3 + 2, none⟩ = some (.int .i64 s2)))) (by kernel_rfl) ⟨⟨K0, K1, K2⟩, K3, K4, K5⟩ (fun hHeld => ?_)
                refine to_lin (T := noMoreST) (n := 41) noMoreSS ⟨by kernel_rfl, by kernel_rfl, by kernel_rfl⟩ (by kernel_rfl) (fun hTag => ?_)
                iterate 41 (refine lin_on (v := ?_) rfl (fun _ _ _ h => h) (by rfl) ?_ (by assumption) ?_; rotate_left; (· (intro wq hSw; go_simp; try with_reducible rfl)); try simp only [Act.put, List.setIfInBounds_toArray, List.set_cons_zero, List.set_cons_succ])
                refine lin_done ?_
                go_wp2
                go_roundw
                case rel => exact ⟨k + 1, _, by omega, by go_num, rfl, HNx, HB⟩
                case measure => simp [intOf]; omega
              · have HNx : Hid ((l'.take (k + 1)).any (geM (t0, t1, t2)) = false) := Lib.hid (by rw [any_take HX'.out, HQ.out]; simp [geM, Ne.symm e1])
                have q1 : (t1 == s1) = false := by simpa using e1
                subst e0
                go_upto_region 8 with fail
                refine wp_region_held_drew (S := (fun w' => (w'.cell? ⟨b, off + j * 3, none⟩ = some (.int .i64 t0) ∧ w'.cell? ⟨b, off + j * 3 + 1, none⟩ = some (.int .i64 t1) ∧ w'.cell? ⟨b, off + j * 3 + 2, none⟩ = some (.int .i64 t2)) ∧ (w'.cell? ⟨b', off' + k * 3, none⟩ = some (.int .i64 t0) ∧ w'.cell? ⟨b', off' + k * 3 + 1, none⟩ = some (.int .i64 s1) ∧ w'.cell? ⟨b', off' + k * 3 + 2, none⟩ = some (.int .i64 s2)))) (by kernel_rfl) ⟨⟨K0, K1, K2⟩, K3, K4, K5⟩ (fun hHeld => ?_)
                refine to_lin (T := noMoreST) (n := 41) noMoreSS ⟨by kernel_rfl, by kernel_rfl, by kernel_rfl⟩ (by kernel_rfl) (fun hTag => ?_)
                iterate 27 (refine lin_on (v := ?_) rfl (fun _ _ _ h => h) (by rfl) ?_ (by assumption) ?_; rotate_left; (· (intro wq hSw; go_simp; try with_reducible rfl)); try simp only [Act.put, List.setIfInBounds_toArray, List.set_cons_zero, List.set_cons_succ])
                iterate 11 (refine lin_off rfl (fun _ _ _ h => h) (by rfl) (by assumption) ?_; try simp only [Act.put, List.setIfInBounds_toArray, List.set_cons_zero, List.set_cons_succ])
                iterate 3 (refine lin_on (v := ?_) rfl (fun _ _ _ h => h) (by rfl) ?_ (by assumption) ?_; rotate_left; (· (intro wq hSw; go_simp; try with_reducible rfl)); try simp only [Act.put, List.setIfInBounds_toArray, List.set_cons_zero, List.set_cons_succ])
                refine lin_done ?_
                go_wp2
                go_roundw
                case rel => exact ⟨k + 1, _, by omega, by go_num, rfl, HNx, HB⟩
                case measure => simp [intOf]; omega
            · have HNx : Hid ((l'.take (k + 1)).any (geM (t0, t1, t2)) = false) := Lib.hid (by rw [any_take HX'.out, HQ.out]; simp [geM, Ne.symm e0])
              have q0 : (t0 == s0) = false := by simpa using e0
              go_upto_region 8 with fail
              refine wp_region_held_drew (S := (fun w' => (w'.cell? ⟨b, off + j * 3, none⟩ = some (.int .i64 t0) ∧ w'.cell? ⟨b, off + j * 3 + 1, none⟩ = some (.int .i64 t1) ∧ w'.cell? ⟨b, off + j * 3 + 2, none⟩ = some (.int .i64 t2)) ∧ (w'.cell? ⟨b', off' + k * 3, none⟩ = some (.int .i64 s0) ∧ w'.cell? ⟨b', off' + k * 3 + 1, none⟩ = some (.int .i64 s1) ∧ w'.cell? ⟨b', off' + k * 3 + 2, none⟩ = some (.int .i64 s2)))) (by kernel_rfl) ⟨⟨K0, K1, K2⟩, K3, K4, K5⟩ (fun hHeld => ?_)
              refine to_lin (T := noMoreST) (n := 41) noMoreSS ⟨by kernel_rfl, by kernel_rfl, by kernel_rfl⟩ (by kernel_rfl) (fun hTag => ?_)
              iterate 14 (refine lin_on (v := ?_) rfl (fun _ _ _ h => h) (by rfl) ?_ (by assumption) ?_; rotate_left; (· (intro wq hSw; go_simp; try with_reducible rfl)); try simp only [Act.put, List.setIfInBounds_toArray, List.set_cons_zero, List.set_cons_succ])
              iterate 11 (refine lin_off rfl (fun _ _ _ h => h) (by rfl) (by assumption) ?_; try simp only [Act.put, List.setIfInBounds_toArray, List.set_cons_zero, List.set_cons_succ])
              iterate 2 (refine lin_on (v := ?_) rfl (fun _ _ _ h => h) (by rfl) ?_ (by assumption) ?_; rotate_left; (· (intro wq hSw; go_simp; try with_reducible rfl)); try simp only [Act.put, List.setIfInBounds_toArray, List.set_cons_zero, List.set_cons_succ])
              iterate 11 (refine lin_off rfl (fun _ _ _ h => h) (by rfl) (by assumption) ?_; try simp only [Act.put, List.setIfInBounds_toArray, List.set_cons_zero, List.set_cons_succ])
              iterate 3 (refine lin_on (v := ?_) rfl (fun _ _ _ h => h) (by rfl) ?_ (by assumption) ?_; rotate_left; (· (intro wq hSw; go_simp; try with_reducible rfl)); try simp only [Act.put, List.setIfInBounds_toArray, List.set_cons_zero, List.set_cons_succ])
              refine lin_done ?_
              go_wp2
              go_roundw
              case rel => exact ⟨k + 1, _, by omega, by go_num, rfl, HNx, HB⟩
              case measure => simp [intOf]; omega
          · have HNx : Hid ((l'.take (k + 1)).any (geM (t0, t1, t2)) = true) := Lib.hid (by rw [any_take HX'.out, HQ.out]; rfl)
            go_upto_region 8 with fail
            refine wp_region_held_drew (S := (fun w' => (w'.cell? ⟨b, off + j * 3, none⟩ = some (.int .i64 t0) ∧ w'.cell? ⟨b, off + j * 3 + 1, none⟩ = some (.int .i64 t1) ∧ w'.cell? ⟨b, off + j * 3 + 2, none⟩ = some (.int .i64 t2)) ∧ (w'.cell? ⟨b', off' + k * 3, none⟩ = some (.int .i64 s0) ∧ w'.cell? ⟨b', off' + k * 3 + 1, none⟩ = some (.int .i64 s1) ∧ w'.cell? ⟨b', off' + k * 3 + 2, none⟩ = some (.int .i64 s2)))) (by kernel_rfl) ⟨⟨K0, K1, K2⟩, K3, K4, K5⟩ (fun hHeld => ?_)
            refine to_lin (T := noMoreST) (n := 41) noMoreSS ⟨by kernel_rfl, by kernel_rfl, by kernel_rfl⟩ (by kernel_rfl) (fun hTag => ?_)
            iterate 2 (refine lin_on (v := ?_) rfl (fun _ _ _ h => h) (by rfl) ?_ (by assumption) ?_; rotate_left; (· (intro wq hSw; go_simp; try with_reducible rfl)); try simp only [Act.put, List.setIfInBounds_toArray, List.set_cons_zero, List.set_cons_succ])
            iterate 37 (refine lin_off rfl (fun _ _ _ h => h) (by rfl) (by assumption) ?_; try simp only [Act.put, List.setIfInBounds_toArray, List.set_cons_zero, List.set_cons_succ])
            iterate 2 (refine lin_on (v := ?_) rfl (fun _ _ _ h => h) (by rfl) ?_ (by assumption) ?_; rotate_left; (· (intro wq hSw; go_simp; try with_reducible rfl)); try simp only [Act.put, List.setIfInBounds_toArray, List.set_cons_zero, List.set_cons_succ])
            refine lin_done ?_
            go_wp2
            go_roundw
            case rel => exact ⟨k + 1, _, by omega, by go_num, rfl, HNx, HB⟩
            case measure => simp [intOf]; omega
        · obtain rfl : k = l'.length := by omega
          have hlk' : ¬ (l'.length : Int) < (l'.length : Int) := by omega
          have HH : Hid (hasM l' (t0, t1, t2) = q) := Lib.hid (by have := HQ.out; rw [List.take_length] at this; exact this)
          cases q
          · obtain rfl : false = z := by rw [← HZ.out]; exact (all_stop HX.out HH.out).symm
            go_wp2
            go_ret
            exact ⟨rfl, HBk.out⟩
          · have HNn : Hid ((l.take (j + 1)).all (hasM l') = true) := Lib.hid (by rw [all_take HX.out, HN.out, HH.out]; rfl)
            go_wp2
            go_roundw
            case rel => exact ⟨j + 1, by omega, by go_num, HNn, HBk⟩
            case measure => simp [intOf]; omega
    · obtain rfl : j = l.length := by omega
      have hlt' : ¬ (l.length : Int) < (l.length : Int) := by omega
      obtain rfl : true = z := by rw [← HZ.out]; have := HN.out; rw [List.take_length] at this; exact this.symm
      go_wp2
      go_ret
      exact ⟨rfl, HB0.out⟩

end Go.Proofs.Ytnlnmllpalcicaa
