/- CountMeets of package impl and of the model. -/
import Derived.Test.YtnlnmllpalcicaaHelpE
namespace Go.Proofs.Ytnlnmllpalcicaa
open Go.ChangeShapes Go.WideShapes Go.ChangeAt Go.RowKit
set_option linter.unusedVariables false

set_option maxRecDepth 100000 in
theorem sCountMeets_is (A : Option Addr) (c : Nat) (l : List Mt3) (h : Int) (w : World) (hs : SeesE 3 encMeet w w.heap.size A l) (hl : l.length ≤ 1099511627776) (z : Int) (hz : cntM l h = z) :
    Calls Try.prog 6 #[.slice A l.length c, .int .i64 h] w fun e w' => e = .returned (.int .i64 z) ∧ Below w.heap.size w w' := by
  have HS := Lib.hid hs; have HZ := Lib.hid hz
  clear hs hz
  go_enter Try.func6, Try.ntmps6
  go_wp2
  go_loopw [5, 6] (fun n i wr => ∃ j : Nat, j ≤ l.length ∧ n = .int .i64 (cntM (l.take j) h) ∧ i = .int .i64 j ∧ Hid (Below w.heap.size w wr)) (fun _ i _ => l.length - (intOf i).toNat)
  case atStart => exact ⟨0, Nat.zero_le _, by rw [cntM_zero], rfl, Lib.hid (Below.refl _ _)⟩
  case round =>
    obtain ⟨j, hj, rfl, rfl, HB⟩ := hrel
    by_cases hlt : j < l.length
    · have hlt' : (j : Int) < (l.length : Int) := by omega
      obtain ⟨b, off, ⟨t0, t1, t2⟩, rfl, hbl, hx, -⟩ := (HS.out.below HB.out).lt hlt
      obtain ⟨k0, k1, k2⟩ := cellsMeet (HS.out.below HB.out) hx
      have hb := cntM_bd l h j
      obtain ⟨N, hN⟩ : ∃ N, cntM (l.take j) h = N := ⟨_, rfl⟩
      rw [hN] at hb ⊢
      by_cases he : t2 = h
      · have HT := Lib.hid (cntM_yes hx he)
        subst he
        clear hx
        go_wp2
        go_roundw
        case rel => exact ⟨j + 1, by omega, by rw [HT.out, hN], by go_num, HB⟩
        case measure => simp [intOf]; omega
      · have HT := Lib.hid (cntM_no hx he)
        clear hx
        go_wp2
        go_roundw
        case rel => exact ⟨j + 1, by omega, by rw [HT.out, hN], by go_num, HB⟩
        case measure => simp [intOf]; omega
    · obtain rfl : j = l.length := by omega
      rw [List.take_length]
      go_wp2
      go_ret
      exact ⟨by rw [← HZ.out]; rfl, HB.out⟩
set_option maxRecDepth 100000 in
theorem countMeets_is (A : Option Addr) (c : Nat) (l : List Mt3) (h : Int) (w : World) (hs : SeesE 3 encMeet w w.heap.size A l) (hl : l.length ≤ 1099511627776) (z : Int) (hz : cntM l h = z) :
    Calls Try.prog 8 #[.slice A l.length c, .int .i64 h] w fun e w' => e = .returned (.int .i64 z) ∧ Below w.heap.size w w' := by
  have HS := Lib.hid hs; have HZ := Lib.hid hz
  clear hs hz
  go_enter Try.func8, Try.ntmps8
  go_wp2
  go_loopw [5, 10] (fun n i wr => ∃ j : Nat, j ≤ l.length ∧ n = .int .i64 (cntM (l.take j) h) ∧ i = .int .i64 j ∧ Hid (Below w.heap.size w wr)) (fun _ i _ => l.length - (intOf i).toNat)
  case atStart => exact ⟨0, Nat.zero_le _, by rw [cntM_zero], rfl, Lib.hid (Below.refl _ _)⟩
  case round =>
    obtain ⟨j, hj, rfl, rfl, HB⟩ := hrel
    by_cases hlt : j < l.length
    · have hlt' : (j : Int) < (l.length : Int) := by omega
      obtain ⟨b, off, ⟨t0, t1, t2⟩, rfl, hbl, hx, -⟩ := (HS.out.below HB.out).lt hlt
      obtain ⟨k0, k1, k2⟩ := cellsMeet (HS.out.below HB.out) hx
      have hb := cntM_bd l h j
      obtain ⟨N, hN⟩ : ∃ N, cntM (l.take j) h = N := ⟨_, rfl⟩
      rw [hN] at hb ⊢
      by_cases he : t2 = h
      · have HT := Lib.hid (cntM_yes hx he)
        subst he
        clear hx
        go_wp2
        go_roundw
        case rel => exact ⟨j + 1, by omega, by rw [HT.out, hN], by go_num, Lib.hid (HB.out.alloc HB.out.size _)⟩
        case measure => simp [intOf]; omega
      · have HT := Lib.hid (cntM_no hx he)
        clear hx
        go_wp2
        go_roundw
        case rel => exact ⟨j + 1, by omega, by rw [HT.out, hN], by go_num, Lib.hid (HB.out.alloc HB.out.size _)⟩
        case measure => simp [intOf]; omega
    · obtain rfl : j = l.length := by omega
      rw [List.take_length]
      go_wp2
      go_ret
      exact ⟨by rw [← HZ.out]; rfl, HB.out⟩
end Go.Proofs.Ytnlnmllpalcicaa
