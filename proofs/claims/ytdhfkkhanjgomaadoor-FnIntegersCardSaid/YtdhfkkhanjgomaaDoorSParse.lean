/- The model's ParseInt: it finds the n whose decimal form the text is, or that there is none. -/
import Derived.Test.YtdhfkkhanjgomaaDoorParse
namespace Go.Proofs.YtdhfkkhanjgomaaDoor
open Go.ChangeShapes Go.WideShapes Go.ChangeAt Go.RowKit
set_option linter.unusedVariables false

/-- How the model's ParseInt ends. -/
def SpOut (s : ByteArray) (w : World) (e : Ending) (w' : World) : Prop :=
  ((∃ n : Nat, n ≤ 1000000000000 ∧ Lib.decDigits n = s.data.toList ∧ e = .returned (.tuple #[.int .i64 n, .bool true])) ∨
   (NoNum s ∧ e = .returned (.tuple #[.int .i64 0, .bool false]))) ∧ Below w.heap.size w w'
theorem noNum_len {s : ByteArray} (h : ¬ (1 ≤ s.size ∧ s.size ≤ 13)) : NoNum s := by
  intro n hn e
  have h1 := dec_length n hn
  rw [e] at h1
  have h2 : s.data.toList.length = s.size := Array.length_toList
  omega
theorem noNum_digit {s : ByteArray} (c : UInt8) (hc : c ∈ s.data.toList) (h : isDig c = false) : NoNum s := by
  intro n hn e
  have := dec_isDig n c (by rw [e]; exact hc)
  rw [h] at this; cases this
theorem noNum_val {s : ByteArray} (v : Nat) (hv : valOf 0 s.data.toList = v) (h : 1000000000000 < v ∨ Lib.decDigits v ≠ s.data.toList) : NoNum s := by
  intro n hn e
  have h1 := valOf_dec n
  rw [e, hv] at h1
  subst h1
  rcases h with h | h
  · omega
  · exact h e
theorem take_snoc (s : ByteArray) (k : Nat) (h : k < s.size) : s.data.toList.take (k + 1) = s.data.toList.take k ++ [s[k]] := by
  rw [List.take_succ_eq_append_getElem (by simpa using h)]; rfl
theorem getElem_mem_list (s : ByteArray) (k : Nat) (h : k < s.size) : s[k] ∈ s.data.toList := by
  have : s[k] = s.data.toList[k]'(by simpa using h) := rfl
  rw [this]; exact List.getElem_mem _
theorem isDig_bd {c : UInt8} (h : isDig c = true) : 48 ≤ c.toNat ∧ c.toNat ≤ 57 := by simpa [isDig] using h
theorem isDig_inB (c : UInt8) : inB (c.toNat : Int) 48 57 = isDig c := by unfold inB isDig; congr 1; apply propext; omega
theorem valOf_take_lt (s : ByteArray) (k : Nat) : k ≤ s.size → (∀ c ∈ s.data.toList.take k, isDig c = true) → valOf 0 (s.data.toList.take k) < 10 ^ k := by
  induction k with
  | zero => intro _ _; rw [List.take_zero, valOf_nil]; decide
  | succ k ih =>
    intro hk hd
    rw [take_snoc s k (by omega)] at hd ⊢
    have h1 := ih (by omega) (fun c hc => hd c (by simp [hc]))
    have h2 := isDig_bd (hd s[k] (by simp))
    rw [valOf_snoc, Nat.pow_succ]
    omega
theorem pow_le13 {k : Nat} (h : k ≤ 13) : 10 ^ k ≤ 10000000000000 := Nat.pow_le_pow_right (by decide) h
theorem ret_pair {n m : Nat} {b : Bool} (h : n = m) : Ending.returned (.tuple #[.int .i64 (n : Int), .bool b]) = .returned (.tuple #[.int .i64 (m : Int), .bool b]) := by rw [h]

theorem sfmt_nat (n : Nat) (h1 : n ≤ 1000000000000) (w : World) :
    Calls Tryd.prog 14 #[.int .i64 (n : Int)] w fun e w' => e = .returned (.string ⟨(Lib.decDigits n).toArray⟩) ∧ Below w.heap.size w w' := by
  rw [← itoa_nat n]; exact sfmt_any n (by omega) (by omega) w

set_option maxHeartbeats 400000 in
theorem sparse_any (s : ByteArray) (hm : s.size ≤ maxLen) (w : World) :
    Calls Tryd.prog 15 #[.string s] w (SpOut s w) := by
  unfold maxLen at hm
  by_cases hl : 1 ≤ s.size ∧ s.size ≤ 13
  · obtain ⟨hl1, hl2⟩ := hl
    have hl3 : s.data.toList.length = s.size := Array.length_toList
    have HL := Lib.hid hl3; clear hl3
    go_enter Tryd.func15, Tryd.ntmps15
    go_wp2_with (go_at_call 24; refine (l1in_is _ _ _ true _ (inB_yes (by omega) (by omega))).mono ?_; rintro e w' ⟨rfl, rfl⟩)
    go_loop [4, 5] (fun v i => ∃ k : Nat, k ≤ s.size ∧ i = .int .i64 k ∧ (∀ c ∈ s.data.toList.take k, isDig c = true) ∧ v = .int .i64 (valOf 0 (s.data.toList.take k) : Nat)) (fun _ i => s.size - (intOf i).toNat)
    case atStart => exact ⟨0, Nat.zero_le _, rfl, by simp, by rw [List.take_zero, valOf_nil]; rfl⟩
    case round =>
      obtain ⟨k, hk, rfl, hd, rfl⟩ := hrel
      have hb := valOf_take_lt s k hk hd
      have hp := pow_le13 (k := k) (by omega)
      have hb' : valOf 0 (s.data.toList.take k) < 10000000000000 := by omega
      clear hp hb
      by_cases hlt : k < s.size
      · have hu : ((s[k].toNat : Nat) : Int) ≤ 255 := by have := s[k].toNat_lt; omega
        cases hdig : isDig s[k]
        · have HN : Hid (NoNum s) := Lib.hid (noNum_digit s[k] (getElem_mem_list s k hlt) hdig)
          have HD := Lib.hid hd; clear hd
          have HI : Hid (inB (s[k].toNat : Int) 48 57 = false) := Lib.hid (by rw [isDig_inB]; exact hdig)
          clear hdig
          go_wp2_with (go_at_call 24; ((with_reducible refine (l1in_is _ _ _ false _ HI.out).mono ?_); rintro e w' ⟨rfl, rfl⟩))
          go_ret2
          exact ⟨.inr ⟨HN.out, rfl⟩, Below.refl _ _⟩
        · have hb48 := isDig_bd hdig
          have hd' : ∀ c ∈ s.data.toList.take (k + 1), isDig c = true := by
            rw [take_snoc s k hlt]
            intro c hc
            rcases List.mem_append.1 hc with hc | hc
            · exact hd c hc
            · simp only [List.mem_singleton] at hc; subst hc; exact hdig
          have hv : ((valOf 0 (s.data.toList.take (k + 1)) : Nat) : Int) = 10 * (valOf 0 (s.data.toList.take k) : Nat) + ((s[k].toNat : Nat) - 48 : Int) := by
            rw [take_snoc s k hlt, valOf_snoc]; omega
          have HV := Lib.hid hv; clear hv
          have HD := Lib.hid hd'; clear hd hd'
          clear hdig
          have h48 : (48 : Int) ≤ ((s[k].toNat : Nat) : Int) := by omega
          have h57 : ((s[k].toNat : Nat) : Int) ≤ 57 := by omega
          clear hu hb48
          go_wp2_with (go_at_call 24; ((with_reducible refine (l1in_is _ _ _ true _ (inB_yes h48 h57)).mono ?_); rintro e w' ⟨rfl, rfl⟩))
          go_round
          case rel => exact ⟨k + 1, by omega, by go_num, HD.out, by rw [HV.out]⟩
          case measure => simp [intOf]; omega
      · obtain rfl : k = s.size := by omega
        have hall : s.data.toList.take s.size = s.data.toList := List.take_of_length_le (by rw [HL.out]; exact Nat.le_refl _)
        rw [hall] at hb' hd ⊢
        obtain ⟨v, hv⟩ : ∃ v, v = valOf 0 s.data.toList := ⟨_, rfl⟩
        rw [← hv] at hb' ⊢
        have HV := Lib.hid hv; clear hv
        have HD := Lib.hid hd; clear hd hall
        by_cases hbig : 1000000000000 < v
        · have HN : Hid (NoNum s) := Lib.hid (noNum_val v HV.out.symm (.inl hbig))
          go_wp2
          go_ret2
          exact ⟨.inr ⟨HN.out, rfl⟩, Below.refl _ _⟩
        · by_cases heq : Lib.decDigits v = s.data.toList
          · have hne : (Lib.decDigits v == s.toList) = true := by rw [ByteArray.toList_eq, heq]; simp
            have HQ := Lib.hid heq; clear heq
            go_wp2_with (go_at_call 14; refine (sfmt_nat v (by omega) _).mono ?_; rintro e w1 ⟨rfl, hb1⟩)
            go_ret2
            exact ⟨.inl ⟨v, by omega, HQ.out, rfl⟩, hb1⟩
          · have hne : (Lib.decDigits v == s.toList) = false := by rw [ByteArray.toList_eq]; simpa using heq
            have HN : Hid (NoNum s) := Lib.hid (noNum_val v HV.out.symm (.inr heq))
            have HQ := Lib.hid heq; clear heq
            go_wp2_with (go_at_call 14; refine (sfmt_nat v (by omega) _).mono ?_; rintro e w1 ⟨rfl, hb1⟩)
            go_ret2
            exact ⟨.inr ⟨HN.out, rfl⟩, hb1⟩
  · have HN : Hid (NoNum s) := Lib.hid (noNum_len hl)
    have hf : inB (s.size : Int) 1 13 = false := by
      rcases (by omega : s.size < 1 ∨ 13 < s.size) with h | h
      · exact inB_low (by omega)
      · exact inB_high (by omega)
    have HF := Lib.hid hf; clear hf; have HL := Lib.hid hl; clear hl
    go_enter Tryd.func15, Tryd.ntmps15
    go_wp2_with (go_at_call 24; refine (l1in_is _ _ _ false _ HF.out).mono ?_; rintro e w' ⟨rfl, rfl⟩)
    go_ret2
    exact ⟨.inr ⟨HN.out, rfl⟩, Below.refl _ _⟩
end Go.Proofs.YtdhfkkhanjgomaaDoor
