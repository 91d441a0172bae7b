/- The model's reader of varints. -/
import Derived.Test.YtnjmohpdmboopaaRead
namespace Go.Proofs.Ytnjmohpdmboopaa
open Go.RowKit
set_option linter.unusedVariables false

theorem rd_out {l : List Int} {k j acc : Nat} (hr : readV l k = (rd (6 - j) j acc ((l.drop k).drop j)).map fun p => (p.1, k + p.2)) (h : l.length ≤ k + j) : readV l k = none := by
  have e : (l.drop k).drop j = [] := List.drop_eq_nil_of_le (by rw [List.length_drop]; omega)
  rw [hr, e]
  cases 6 - j <;> rfl
theorem ssum_is {acc y j : Nat} (ha : acc < 128 ^ j) (hj : j ≤ 5) (hy : y ≤ 255) : bits .or .i64 (acc : Int) (wrap64 (bits .and .i64 (y : Int) 127 * 2 ^ (7 * j))) = ((acc + y % 128 * 128 ^ j : Nat) : Int) := by
  have hb := sum_bd (y := y) ha hj
  have e : bits .and .i64 (y : Int) 127 * 2 ^ (7 * j) = ((y % 128 * 128 ^ j : Nat) : Int) := by rw [and127 y (by omega), Nat.mul_comm 7 j, pow128]; simp
  have h := or_above acc (y % 128) j ha (Nat.mod_lt _ (by decide)) hj
  rw [e]
  obtain ⟨p, hp⟩ : ∃ p : Nat, p = y % 128 * 128 ^ j := ⟨_, rfl⟩
  rw [← hp] at hb h ⊢
  rw [IntWalk.wrap64_in (p : Int) (by omega)]
  exact h
set_option maxRecDepth 100000 in
theorem sread_in (A : Option Addr) (c B k : Nat) (l : List Int) (w : World) (hs : Sees w B .u8 A l) (h8 : B8 l) (hk : k ≤ l.length) (hl : l.length ≤ 4398046511104) :
    Calls Try.prog 18 #[.slice A l.length c, .int .i64 k] w fun e w' => e = .returned (rvV (readV l k)) ∧ w = w' := by
  have HS := Lib.hid hs; clear hs
  have H8 : Hid (B8 l) := Lib.hid h8
  clear h8
  go_enter Try.func18, Try.ntmps18
  go_wp2
  go_loop [7, 8] (fun v i => RdRel l k 6 v i) (fun _ i => 6 - (intOf i).toNat)
  case atStart => exact ⟨0, 0, Nat.zero_le _, rfl, rfl, by simp, by rw [readV_at hk]; rfl⟩
  case round =>
    obtain ⟨j, acc, hj, rfl, rfl, hacc, hrd⟩ := hrel
    have HRD := Lib.hid hrd; clear hrd
    have HA := Lib.hid hacc; clear hacc
    by_cases hlt : j < 6
    · by_cases hin : k + j < l.length
      · obtain ⟨b, off, x, hA2, hbl, hx0, hc⟩ := HS.out.lt hin
        subst hA2
        have hx : (l.drop k)[j]? = some x := by rw [List.getElem?_drop]; exact hx0
        clear hx0
        have hx8 := H8.out.drop k x (List.mem_of_getElem? hx)
        obtain ⟨y, rfl⟩ : ∃ y : Nat, x = y := ⟨x.toNat, by omega⟩
        have HX := Lib.hid hx; clear hx
        have hy : y ≤ 255 := by omega
        clear hx8
        have hj5 : j ≤ 5 := by omega
        obtain ⟨s, hs⟩ : ∃ s, acc + y % 128 * 128 ^ j = s := ⟨_, rfl⟩
        have hsum := ssum_is (y := y) HA.out hj5 hy
        have hbd := sum_bd (y := y) HA.out hj5
        rw [hs] at hsum hbd
        have HB := Lib.hid hbd; clear hbd
        have HSM := Lib.hid hs; clear hs
        by_cases hy2 : y < 128
        · by_cases hbad : y = 0 ∧ 0 < j
          · obtain ⟨rfl, hj0⟩ := hbad
            have hn : readV l k = none := rd_none HRD.out HX.out hj5 hy2 (.inl ⟨rfl, hj0⟩)
            have HNo := Lib.hid hn; clear hn hsum
            go_wp2
            all_goals
              go_ret3
              exact ⟨ret_rv HNo.out, rfl⟩
          · by_cases hbig : 1000000000000 < s
            · have hn : readV l k = none := rd_none HRD.out HX.out hj5 hy2 (.inr (by rw [HSM.out]; exact hbig))
              have HNo := Lib.hid hn; clear hn hbad
              go_wp2
              all_goals
                go_ret3
                exact ⟨ret_rv HNo.out, rfl⟩
            · have hn : readV l k = some (s, k + (j + 1)) := by rw [← HSM.out]; exact rd_some HRD.out HX.out hj5 hy2 (by rw [HSM.out]; omega)
              have HNo := Lib.hid hn; clear hn
              rcases (by omega : ¬ 0 < j ∨ 1 ≤ y) with hj0 | hy1
              · clear hbad
                go_wp2
                all_goals
                  go_ret3
                  exact ⟨(rv_yes rfl).trans (ret_rv HNo.out), rfl⟩
              · clear hbad
                have hyb : ((y : Int) == 0) = false := by simp; omega
                go_wp2
                all_goals
                  go_ret3
                  exact ⟨(rv_yes rfl).trans (ret_rv HNo.out), rfl⟩
        · go_wp2
          go_round
          case rel => exact ⟨j + 1, s, by omega, by go_num, rfl, HB.out.2, by rw [← HSM.out]; exact rd_next HRD.out HX.out hj5 hy2⟩
          case measure => simp [intOf]; omega
      · have hn : readV l k = none := rd_out HRD.out (by omega)
        have HNo := Lib.hid hn; clear hn
        go_wp2
        all_goals
          go_ret3
          exact ⟨ret_rv HNo.out, rfl⟩
    · obtain rfl : j = 6 := by omega
      have hn : readV l k = none := by rw [HRD.out]; rfl
      have HNo := Lib.hid hn; clear hn
      go_wp2
      go_ret3
      exact ⟨ret_rv HNo.out, rfl⟩
set_option maxRecDepth 100000 in
theorem sread_any (A : Option Addr) (c B : Nat) (l : List Int) (off : Int) (w : World) (hs : Sees w B .u8 A l) (h8 : B8 l) (hl : l.length ≤ 4398046511104) (ho : -9223372036854775808 ≤ off) (ho' : off ≤ 9223372036854775807) :
    Calls Try.prog 18 #[.slice A l.length c, .int .i64 off] w fun e w' => e = .returned (rvV (readV l off)) ∧ w = w' := by
  by_cases h : 0 ≤ off ∧ off ≤ l.length
  · obtain ⟨k, rfl⟩ : ∃ k : Nat, off = k := ⟨off.toNat, by omega⟩
    exact sread_in A c B k l w hs h8 (by omega) hl
  · have hn := readV_out h
    have HNo := Lib.hid hn; clear hn hs h8
    rcases (by omega : off < 0 ∨ (l.length : Int) < off) with h1 | h1
    all_goals
      clear h
      go_enter Try.func18, Try.ntmps18
      go_wp2
      go_loop [7, 8] (fun v i => i = .int .i64 0 ∧ v = .int .i64 0) (fun _ i => 6 - (intOf i).toNat)
      case atStart => exact ⟨rfl, rfl⟩
      case round =>
        obtain ⟨rfl, rfl⟩ := hrel
        go_wp2
        all_goals
          go_ret3
          exact ⟨ret_rv HNo.out, rfl⟩
end Go.Proofs.Ytnjmohpdmboopaa
