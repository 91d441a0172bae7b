/- Simpler lines: IsPartOf of the model. -/
import Derived.Test.YtpbmngbigdaklaaSimpF
import Derived.Test.YtpbmngbigdaklaaLineE
import Derived.Deep.RegionHeld3
import Derived.Test.YtpbmngbigdaklaaTabs
import Derived.Deep.DeepCutAuto
namespace Go.Proofs.Ytpbmngbigdaklaa
open Go.ChangeShapes Go.WideShapes Go.ChangeAt Go.RowKit
set_option linter.unusedVariables false

theorem eat_yes {a b : List (Int × Int)} {k i : Nat} {q : Int × Int} (h : b[k]? = some q) (hi : i = eatN a 0 (b.take k)) (ha : a[i]? = some q) : i + 1 = eatN a 0 (b.take (k + 1)) := by
  subst hi; rw [eat_step h, if_pos ha]
theorem eat_no {a b : List (Int × Int)} {k i : Nat} {q : Int × Int} (h : b[k]? = some q) (hi : i = eatN a 0 (b.take k)) (ha : a[i]? ≠ some q) : i = eatN a 0 (b.take (k + 1)) := by
  subst hi; rw [eat_step h, if_neg ha]
def isPartRT : List (Nat × Nat × Nat) := [(0, 14, 32), (0, 15, 1), (2, 16, 16384), (5, 17, 40960), (8, 18, 65536), (16, 19, 131073), (16, 20, 131104), (112, 21, 917504), (144, 22, 1179648), (16, 23, 131074), (16, 24, 131136), (1552, 25, 12713984), (2064, 26, 16908288), (4368, 27, 35782656), (8208, 28, 67239936)]
def isPartRS : List (Nat × Bool) := [(0, true), (1, true), (2, true), (3, true), (4, true), (5, true), (6, true), (7, true), (8, true), (9, true), (10, true), (11, true), (12, true), (13, true), (14, true)]
set_option maxRecDepth 100000 in
set_option maxHeartbeats 4000000 in
theorem sIsPartOf_is (A A' : Option Addr) (c c' : Nat) (l l' : List (Int × Int)) (w : World) (hs : SeesE 2 encPoint w w.heap.size A l) (hs' : SeesE 2 encPoint w w.heap.size A' l') (hl : l.length ≤ 1099511627776) (hl' : l'.length ≤ 1099511627776) (z : Bool) (hz : partV l l' = z) :
    Calls Try.prog 11 #[.slice A l.length c, .slice A' l'.length c'] w fun e w' => e = .returned (.bool z) ∧ Below w.heap.size w w' := by
  have HS := Lib.hid hs; clear hs
  have HS' := Lib.hid hs'; clear hs'
  have HZ := Lib.hid hz; clear hz
  go_enter Try.func11, Try.ntmps11
  go_wp2
  go_loopw [5, 6] (fun s t wr => ∃ i k : Nat, i ≤ l.length ∧ k ≤ l'.length ∧ s = .int .i64 (i : Int) ∧ t = .int .i64 (k : Int) ∧ Hid (i = eatN l 0 (l'.take k)) ∧ Hid (Below w.heap.size w wr)) (fun _ t _ => l'.length - (intOf t).toNat)
  case atStart => exact ⟨0, 0, Nat.zero_le _, Nat.zero_le _, rfl, rfl, Lib.hid rfl, Lib.hid (Below.refl _ _)⟩
  case round =>
    obtain ⟨i, k, hi, hk, rfl, rfl, HE, HB⟩ := hrel
    by_cases hlt : k < l'.length
    · have hlt' : (k : Int) < (l'.length : Int) := by omega
      obtain ⟨b', off', ⟨u0, u1⟩, rfl, hbl', hx', -⟩ := (HS'.out.below HB.out).lt hlt
      obtain ⟨k2, k3⟩ := cellsPoint (HS'.out.below HB.out) hx'
      have HX' := Lib.hid hx'
      clear hx'
      by_cases hil : i < l.length
      · have hil' : (i : Int) < (l.length : Int) := by omega
        obtain ⟨b, off, ⟨t0, t1⟩, rfl, hbl, hx, -⟩ := (HS.out.below HB.out).lt hil
        obtain ⟨k0, k1⟩ := cellsPoint (HS.out.below HB.out) hx
        have HX := Lib.hid hx
        clear hx
        go_wp2
        by_cases h0 : t0 = u0 ∧ t1 = u1
        · obtain ⟨rfl, rfl⟩ := h0
          go_region_held3 (fun w' => w'.cell? ⟨b, off + i * 2, none⟩ = some (.int .i64 t0) ∧ w'.cell? ⟨b, off + i * 2 + 1, none⟩ = some (.int .i64 t1) ∧ w'.cell? ⟨b', off' + k * 2, none⟩ = some (.int .i64 t0) ∧ w'.cell? ⟨b', off' + k * 2 + 1, none⟩ = some (.int .i64 t1)) (first | exact ⟨k0, k1, k2, k3⟩) (fail)
          all_goals
            go_wp2
            go_roundw
            case rel => exact ⟨i + 1, k + 1, by omega, by omega, by go_num, by go_num, Lib.hid (eat_yes HX'.out HE.out HX.out), Lib.hid HB.out.drew⟩
            case measure => simp [intOf]; omega
        · have HN : Hid (l[i]? ≠ some (u0, u1)) := Lib.hid (by rw [HX.out]; intro e; exact PtV_ne h0 (Option.some.inj e))
          by_cases h1 : t0 = u0
          · have h2 : ¬ t1 = u1 := fun e => h0 ⟨h1, e⟩
            subst h1
            go_region_held3 (fun w' => w'.cell? ⟨b, off + i * 2, none⟩ = some (.int .i64 t0) ∧ w'.cell? ⟨b, off + i * 2 + 1, none⟩ = some (.int .i64 t1) ∧ w'.cell? ⟨b', off' + k * 2, none⟩ = some (.int .i64 t0) ∧ w'.cell? ⟨b', off' + k * 2 + 1, none⟩ = some (.int .i64 u1)) (first | exact ⟨k0, k1, k2, k3⟩) (fail)
            all_goals
              go_wp2
              go_roundw
              case rel => exact ⟨i, k + 1, by omega, by omega, rfl, by go_num, Lib.hid (eat_no HX'.out HE.out HN.out), Lib.hid HB.out.drew⟩
              case measure => simp [intOf]; omega
          · go_region_held3 (fun w' => w'.cell? ⟨b, off + i * 2, none⟩ = some (.int .i64 t0) ∧ w'.cell? ⟨b, off + i * 2 + 1, none⟩ = some (.int .i64 t1) ∧ w'.cell? ⟨b', off' + k * 2, none⟩ = some (.int .i64 u0) ∧ w'.cell? ⟨b', off' + k * 2 + 1, none⟩ = some (.int .i64 u1)) (first | exact ⟨k0, k1, k2, k3⟩) (fail)
            all_goals
              go_wp2
              go_roundw
              case rel => exact ⟨i, k + 1, by omega, by omega, rfl, by go_num, Lib.hid (eat_no HX'.out HE.out HN.out), Lib.hid HB.out.drew⟩
              case measure => simp [intOf]; omega
      · have hil' : ¬ (i : Int) < (l.length : Int) := by omega
        have HN : Hid (l[i]? ≠ some (u0, u1)) := Lib.hid (by rw [List.getElem?_eq_none (by omega)]; simp)
        go_upto_region 5 with fail
        refine wp_region_held_drew (S := (fun w' => True)) (by kernel_rfl) trivial (fun hHeld => ?_)
        refine to_lin (T := isPartRT) (n := 15) isPartRS ⟨by kernel_rfl, by kernel_rfl, by kernel_rfl⟩ (by kernel_rfl) (fun hTag => ?_)
        iterate 5 (refine lin_on (v := ?_) rfl (fun _ _ _ h => h) (by rfl) ?_ (by assumption) ?_; rotate_left; (· (intro wq hSw; go_simp; try with_reducible rfl)); try simp only [Act.put, List.setIfInBounds_toArray, List.set_cons_zero, List.set_cons_succ])
        iterate 9 (refine lin_off rfl (fun _ _ _ h => h) (by rfl) (by assumption) ?_; try simp only [Act.put, List.setIfInBounds_toArray, List.set_cons_zero, List.set_cons_succ])
        (refine lin_on (v := ?_) rfl (fun _ _ _ h => h) (by rfl) ?_ (by assumption) ?_; rotate_left; (· (intro wq hSw; go_simp; try with_reducible rfl)); try simp only [Act.put, List.setIfInBounds_toArray, List.set_cons_zero, List.set_cons_succ])
        refine lin_done ?_
        go_wp2
        go_roundw
        case rel => exact ⟨i, k + 1, by omega, by omega, rfl, by go_num, Lib.hid (eat_no HX'.out HE.out HN.out), Lib.hid HB.out.drew⟩
        case measure => simp [intOf]; omega
    · obtain rfl : k = l'.length := by omega
      have HV : Hid (((i : Int) == (l.length : Int)) = z) := Lib.hid (by
        have e : partV l l' = decide (i = l.length) := by unfold partV; rw [HE.out, List.take_length]
        rw [← HZ.out, e, Bool.eq_iff_iff]; simp; omega)
      go_wp2
      go_ret
      exact ⟨by rw [← HV.out]; rfl, HB.out⟩
end Go.Proofs.Ytpbmngbigdaklaa
