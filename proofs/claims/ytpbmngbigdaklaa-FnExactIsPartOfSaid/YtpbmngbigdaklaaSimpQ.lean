/- Simpler lines: IsPartOf of package impl. -/
import Derived.Test.YtpbmngbigdaklaaSimpP
import Derived.Test.YtpbmngbigdaklaaOneVar
import Derived.Laws.StructEq
import Derived.Deep.LoopGhost
import Derived.LoopTactic
namespace Go.Proofs.Ytpbmngbigdaklaa
open Go.ChangeShapes Go.WideShapes Go.ChangeAt Go.RowKit
set_option linter.unusedVariables false
theorem ptEql (a b c d : Int) (w : World) : (binOp .eql 27 (PtV a b) (PtV c d)).run Try.prog w = .ok (.bool (decide (a = c) && decide (b = d))) w := by
  have hu := Try.underlying27
  have hi := Try.underlying3
  rw [run_eql_struct, run_equalIn_agg _ _ _ _ _ (by simp [Program.fieldsOf, hu]) (by kernel_rfl)]
  simp [Program.fieldsOf, hu, go_sem, hi]
  by_cases h : a = c <;> by_cases h' : b = d <;> simp [h, h']
theorem ptNeq (a b c d : Int) (w : World) : (binOp .neq 27 (PtV a b) (PtV c d)).run Try.prog w = .ok (.bool (!(decide (a = c) && decide (b = d)))) w := by
  have hu := Try.underlying27
  have hi := Try.underlying3
  rw [run_neq_struct, run_equalIn_agg _ _ _ _ _ (by simp [Program.fieldsOf, hu]) (by kernel_rfl)]
  simp [Program.fieldsOf, hu, go_sem, hi]
  by_cases h : a = c <;> by_cases h' : b = d <;> simp [h, h']
def partIT : List (Nat × Nat × Nat) := [(0, 15, 32), (0, 16, 1), (2, 17, 32768), (5, 18, 81920), (8, 19, 131072), (16, 20, 262145), (16, 21, 262176), (112, 22, 1835008), (144, 23, 2359296), (16, 24, 262272), (784, 25, 12845056), (1040, 26, 17039360)]
def partIS : List (Nat × Bool) := [(0, true), (1, true), (2, true), (3, true), (4, true), (5, true), (6, true), (7, true), (8, true), (9, true), (10, true), (11, true)]
set_option maxRecDepth 100000 in
set_option maxHeartbeats 4000000 in
theorem isPartOf_is (A A' : Option Addr) (c c' : Nat) (l l' : List (Int × Int)) (w : World) (hs : SeesE 2 encPoint w w.heap.size A l) (hs' : SeesE 2 encPoint w w.heap.size A' l') (hl : l.length ≤ 1099511627776) (hl' : l'.length ≤ 1099511627776) (z : Bool) (hz : partV l l' = z) :
    Calls Try.prog 13 #[.slice A l.length c, .slice A' l'.length c'] w fun e w' => e = .returned (.bool z) ∧ Below w.heap.size w w' := by
  have HS := Lib.hid hs; clear hs
  have HS' := Lib.hid hs'; clear hs'
  have HZ := Lib.hid hz; clear hz
  go_enter Try.func13, Try.ntmps13
  go_wp2
  go_loopg [5, 7, 10] l'.length (fun g s _ t wr => ∃ i k : Nat, i ≤ l.length ∧ k + g = l'.length ∧ s = .int .i64 (i : Int) ∧ t = .int .i64 (k : Int) ∧ Hid (i = eatN l 0 (l'.take k)) ∧ Hid (Below w.heap.size w wr))
  case atStart => exact ⟨0, 0, Nat.zero_le _, by omega, rfl, rfl, Lib.hid rfl, Lib.hid (Below.refl _ _)⟩
  case round =>
    obtain ⟨i, k, hi, hg, rfl, rfl, HE, HB⟩ := hrel
    by_cases hlt : k < l'.length
    · have hlt' : (k : Int) < (l'.length : Int) := by omega
      obtain ⟨b', off', ⟨u0, u1⟩, rfl, hbl', hx', -⟩ := (HS'.out.below HB.out).lt hlt
      obtain ⟨k2, k3⟩ := cellsPoint (HS'.out.below HB.out) hx'
      have HX' := Lib.hid hx'
      have HBa : Hid (Below w.heap.size w (wr.alloc (.cells #[.int .i64 u0, .int .i64 u1] 27)).drew) := Lib.hid (HB.out.alloc HB.out.size _).drew
      clear hx'
      have K2 : (wr.alloc (.cells #[.int .i64 u0, .int .i64 u1] 27)).drew.cell? ⟨wr.heap.size, 0, none⟩ = some (.int .i64 u0) := (OneV.new (m := 0) wr (Nat.zero_le _) #[.int .i64 u0, .int .i64 u1] 27).drew.cell 0 rfl
      have K3 : (wr.alloc (.cells #[.int .i64 u0, .int .i64 u1] 27)).drew.cell? ⟨wr.heap.size, 1, none⟩ = some (.int .i64 u1) := (OneV.new (m := 0) wr (Nat.zero_le _) #[.int .i64 u0, .int .i64 u1] 27).drew.cell 1 rfl
      by_cases hil : i < l.length
      · have hil' : (i : Int) < (l.length : Int) := by omega
        obtain ⟨b, off, ⟨t0, t1⟩, rfl, hbl, hx, -⟩ := (HS.out.below HB.out).lt hil
        obtain ⟨k0, k1⟩ := cellsPoint (HS.out.below HB.out) hx
        have HX := Lib.hid hx
        have hbs : b < wr.heap.size := World.block_lt_of_cell? _ _ k0
        have K0 : (wr.alloc (.cells #[.int .i64 u0, .int .i64 u1] 27)).drew.cell? ⟨b, off + i * 2, none⟩ = some (.int .i64 t0) := (((Below.refl wr.heap.size wr).alloc (Nat.le_refl _) _).drew.cell (p := ⟨b, off + i * 2, none⟩) hbs).trans k0
        have K1 : (wr.alloc (.cells #[.int .i64 u0, .int .i64 u1] 27)).drew.cell? ⟨b, off + i * 2 + 1, none⟩ = some (.int .i64 t1) := (((Below.refl wr.heap.size wr).alloc (Nat.le_refl _) _).drew.cell (p := ⟨b, off + i * 2 + 1, none⟩) hbs).trans k1
        have hpe := ptEql t0 t1 u0 u1
        clear hx
        go_upto_region 5 with fail
        by_cases h0 : t0 = u0 ∧ t1 = u1
        · have hq : (decide (t0 = u0) && decide (t1 = u1)) = true := by simp [h0]
          rw [hq] at hpe
          replace HX : Hid (l[i]? = some (u0, u1)) := Lib.hid (by rw [HX.out, h0.1, h0.2])
          clear hq
          refine wp_region_held_drew (S := (fun w' => (w'.cell? ⟨b, off + i * 2, none⟩ = some (.int .i64 t0) ∧ w'.cell? ⟨b, off + i * 2 + 1, none⟩ = some (.int .i64 t1)) ∧ w'.cell? ⟨wr.heap.size, 0, none⟩ = some (.int .i64 u0) ∧ w'.cell? ⟨wr.heap.size, 1, none⟩ = some (.int .i64 u1))) (by kernel_rfl) ⟨⟨K0, K1⟩, K2, K3⟩ (fun hHeld => ?_)
          refine to_lin (T := partIT) (n := 12) partIS ⟨by kernel_rfl, by kernel_rfl, by kernel_rfl⟩ (by kernel_rfl) (fun hTag => ?_)
          iterate 12 (refine lin_on (v := ?_) rfl (fun _ _ _ h => h) (by rfl) ?_ (by assumption) ?_; rotate_left; (· (intro wq hSw; go_simp; try with_reducible rfl)); try simp only [Act.put, List.setIfInBounds_toArray, List.set_cons_zero, List.set_cons_succ])
          refine lin_done ?_
          go_wp2
          go_roundg (l'.length - (k + 1))
          case measure => omega
          case rel => exact ⟨i + 1, k + 1, by omega, by omega, by go_num, by go_num, Lib.hid (eat_yes HX'.out HE.out HX.out), HBa⟩
        · have hq : (decide (t0 = u0) && decide (t1 = u1)) = false := by simpa using h0
          rw [hq] at hpe
          have HN : Hid (l[i]? ≠ some (u0, u1)) := Lib.hid (by rw [HX.out]; intro e; exact PtV_ne h0 (Option.some.inj e))
          clear hq
          refine wp_region_held_drew (S := (fun w' => (w'.cell? ⟨b, off + i * 2, none⟩ = some (.int .i64 t0) ∧ w'.cell? ⟨b, off + i * 2 + 1, none⟩ = some (.int .i64 t1)) ∧ w'.cell? ⟨wr.heap.size, 0, none⟩ = some (.int .i64 u0) ∧ w'.cell? ⟨wr.heap.size, 1, none⟩ = some (.int .i64 u1))) (by kernel_rfl) ⟨⟨K0, K1⟩, K2, K3⟩ (fun hHeld => ?_)
          refine to_lin (T := partIT) (n := 12) partIS ⟨by kernel_rfl, by kernel_rfl, by kernel_rfl⟩ (by kernel_rfl) (fun hTag => ?_)
          iterate 12 (refine lin_on (v := ?_) rfl (fun _ _ _ h => h) (by rfl) ?_ (by assumption) ?_; rotate_left; (· (intro wq hSw; go_simp; try with_reducible rfl)); try simp only [Act.put, List.setIfInBounds_toArray, List.set_cons_zero, List.set_cons_succ])
          refine lin_done ?_
          go_wp2
          go_roundg (l'.length - (k + 1))
          case measure => omega
          case rel => exact ⟨i, k + 1, by omega, by omega, rfl, by go_num, Lib.hid (eat_no HX'.out HE.out HN.out), HBa⟩
      · have hil' : ¬ (i : Int) < (l.length : Int) := by omega
        have HN : Hid (l[i]? ≠ some (u0, u1)) := Lib.hid (by rw [List.getElem?_eq_none (by omega)]; simp)
        go_upto_region 5 with fail
        refine wp_region_held_drew (S := (fun w' => True)) (by kernel_rfl) trivial (fun hHeld => ?_)
        refine to_lin (T := partIT) (n := 12) partIS ⟨by kernel_rfl, by kernel_rfl, by kernel_rfl⟩ (by kernel_rfl) (fun hTag => ?_)
        iterate 5 (refine lin_on (v := ?_) rfl (fun _ _ _ h => h) (by rfl) ?_ (by assumption) ?_; rotate_left; (· (intro wq hSw; go_simp; try with_reducible rfl)); try simp only [Act.put, List.setIfInBounds_toArray, List.set_cons_zero, List.set_cons_succ])
        iterate 6 (refine lin_off rfl (fun _ _ _ h => h) (by rfl) (by assumption) ?_; try simp only [Act.put, List.setIfInBounds_toArray, List.set_cons_zero, List.set_cons_succ])
        (refine lin_on (v := ?_) rfl (fun _ _ _ h => h) (by rfl) ?_ (by assumption) ?_; rotate_left; (· (intro wq hSw; go_simp; try with_reducible rfl)); try simp only [Act.put, List.setIfInBounds_toArray, List.set_cons_zero, List.set_cons_succ])
        refine lin_done ?_
        go_wp2
        go_roundg (l'.length - (k + 1))
        case measure => omega
        case rel => exact ⟨i, k + 1, by omega, by omega, rfl, by go_num, Lib.hid (eat_no HX'.out HE.out HN.out), HBa⟩
    · obtain rfl : k = l'.length := by omega
      have hlt' : ¬ (l'.length : Int) < (l'.length : Int) := by omega
      have HV : Hid (((i : Int) == (l.length : Int)) = z) := Lib.hid (by
        have e : partV l l' = decide (i = l.length) := by unfold partV; rw [HE.out, List.take_length]
        rw [← HZ.out, e, Bool.eq_iff_iff]; simp; omega)
      go_wp2
      go_ret
      exact ⟨by rw [← HV.out]; rfl, HB.out⟩
end Go.Proofs.Ytpbmngbigdaklaa
