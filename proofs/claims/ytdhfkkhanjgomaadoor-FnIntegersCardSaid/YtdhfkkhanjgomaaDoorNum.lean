/- Decimal numerals as lists of bytes: plain mathematics, no program: what a loop that takes the last digit off gives, what a loop over the digits adds up to, how strconv.Atoi ends at a numeral. -/
import Derived.Lib.ItoaMem
import Derived.Lib.AtoiAll
namespace Go.Proofs.YtdhfkkhanjgomaaDoor
open Go

/-- The digits of x, none for 0. -/
def digs0 (x : Nat) : List UInt8 := if x = 0 then [] else Lib.decDigits x
theorem digs0_step (x : Nat) (h : x ≠ 0) : digs0 x = digs0 (x / 10) ++ [UInt8.ofNat (48 + x % 10)] := by
  unfold digs0
  rw [if_neg h, Lib.decDigits]
  by_cases hx : x < 10
  · rw [dif_pos hx, if_pos (by omega), Nat.mod_eq_of_lt hx]; rfl
  · rw [dif_neg hx, if_neg (by omega)]
theorem itoa_digs0 (n : Int) (h : n ≠ 0) : Lib.itoa n = (if n < 0 then [45] else []) ++ digs0 n.natAbs := by
  have e : digs0 n.natAbs = Lib.decDigits n.natAbs := by unfold digs0; rw [if_neg (by omega)]
  rw [e]
  unfold Lib.itoa
  by_cases hn : n < 0
  · rw [if_pos hn, if_pos hn]; rfl
  · rw [if_neg hn, if_neg hn, List.nil_append]
    congr 1; omega
theorem nDigits_le (k y : Nat) (hy : y < 10 ^ k) (hk : 1 ≤ k) : Lib.nDigits y ≤ k := by
  induction k generalizing y with
  | zero => omega
  | succ k ih =>
    by_cases hb : y < 10
    · rw [Lib.nDigits_small hb]; omega
    · rw [Lib.nDigits_big hb]
      have : Lib.nDigits (y / 10) ≤ k := ih (y / 10) (by rw [Nat.pow_succ] at hy; omega) (by
        rcases k with _ | k
        · simp at hy; omega
        · omega)
      omega
theorem digs0_length_le (x : Nat) (h : x ≤ 9223372036854775808) : (digs0 x).length ≤ 20 := by
  unfold digs0
  split
  · simp
  · rw [Lib.decDigits_length]; exact nDigits_le 20 x (by omega) (by omega)
theorem itoa_len (n : Int) (h0 : -9223372036854775808 ≤ n) (h1 : n ≤ 9223372036854775807) : (Lib.itoa n).length ≤ 21 := by
  unfold Lib.itoa
  split
  · have := nDigits_le 20 n.natAbs (by omega) (by omega)
    simp only [List.length_cons, Lib.decDigits_length]; omega
  · have := nDigits_le 20 n.toNat (by omega) (by omega)
    rw [Lib.decDigits_length]; omega
theorem dec_length (n : Nat) (h : n ≤ 1000000000000) : 1 ≤ (Lib.decDigits n).length ∧ (Lib.decDigits n).length ≤ 13 := by
  rw [Lib.decDigits_length]
  exact ⟨Lib.nDigits_pos n, nDigits_le 13 n (by omega) (by omega)⟩

/-- A decimal digit. -/
def isDig (c : UInt8) : Bool := decide (48 ≤ c.toNat ∧ c.toNat ≤ 57)
/-- What the digits add up to, behind acc. -/
def valOf (acc : Nat) (l : List UInt8) : Nat := l.foldl (fun a c => 10 * a + (c.toNat - 48)) acc
theorem valOf_cons (acc : Nat) (c : UInt8) (r : List UInt8) : valOf acc (c :: r) = valOf (10 * acc + (c.toNat - 48)) r := by
  unfold valOf; rw [List.foldl_cons]
theorem valOf_nil (acc : Nat) : valOf acc [] = acc := by unfold valOf; rw [List.foldl_nil]
theorem valOf_snoc (l : List UInt8) (acc : Nat) (c : UInt8) : valOf acc (l ++ [c]) = 10 * valOf acc l + (c.toNat - 48) := by
  unfold valOf; rw [List.foldl_append, List.foldl_cons, List.foldl_nil]
theorem digit_toNat (d : Nat) (h : d < 10) : (UInt8.ofNat (48 + d)).toNat = 48 + d := by
  simp [UInt8.toNat_ofNat']; omega
theorem dec_small {n : Nat} (h : n < 10) : Lib.decDigits n = [UInt8.ofNat (48 + n)] := by rw [Lib.decDigits, dif_pos h]
theorem dec_big {n : Nat} (h : ¬ n < 10) : Lib.decDigits n = Lib.decDigits (n / 10) ++ [UInt8.ofNat (48 + n % 10)] := by rw [Lib.decDigits, dif_neg h]
theorem valOf_dec (n : Nat) : valOf 0 (Lib.decDigits n) = n := by
  induction n using Nat.strongRecOn with
  | _ n ih =>
    by_cases h : n < 10
    · rw [dec_small h]
      rw [valOf_cons, valOf_nil, digit_toNat n h]; omega
    · have e := digit_toNat (n % 10) (Nat.mod_lt _ (by decide))
      rw [dec_big h, valOf_snoc, ih (n / 10) (by omega), e]; omega
theorem dec_isDig (n : Nat) : ∀ c ∈ Lib.decDigits n, isDig c = true := by
  induction n using Nat.strongRecOn with
  | _ n ih =>
    by_cases h : n < 10
    · rw [dec_small h]
      intro c hc
      simp only [List.mem_singleton] at hc
      subst hc
      unfold isDig
      rw [digit_toNat n h]; simp; omega
    · rw [dec_big h]
      intro c hc
      rcases List.mem_append.1 hc with hc | hc
      · exact ih (n / 10) (by omega) c hc
      · simp only [List.mem_singleton] at hc
        subst hc
        unfold isDig
        rw [digit_toNat _ (by omega)]; simp; omega
theorem le_valOf (l : List UInt8) : ∀ (acc : Nat), acc ≤ valOf acc l := by
  induction l with
  | nil => intro acc; rw [valOf_nil]; exact Nat.le_refl _
  | cons c r ih => intro acc; rw [valOf_cons]; exact Nat.le_trans (by omega) (ih _)
theorem parseUint10_val (l : List UInt8) : ∀ (acc : Nat), (∀ c ∈ l, isDig c = true) → valOf acc l ≤ 1000000000000 → Lib.parseUint10 acc l = .ok (valOf acc l) := by
  induction l with
  | nil => intro acc _ _; rw [valOf_nil]; rfl
  | cons c r ih =>
    intro acc hd hv
    have hc : 48 ≤ c.toNat ∧ c.toNat ≤ 57 := by have := hd c (by simp); simpa [isDig] using this
    rw [valOf_cons] at hv ⊢
    have h1 : 10 * acc + (c.toNat - 48) ≤ 1000000000000 := Nat.le_trans (le_valOf r _) hv
    unfold Lib.parseUint10
    rw [if_pos hc, if_neg (by omega), if_neg (by omega), show acc * 10 + (c.toNat - 48) = 10 * acc + (c.toNat - 48) by omega]
    exact ih _ (fun x hx => hd x (by simp [hx])) hv
theorem atoi_dec (n : Nat) (h : n ≤ 1000000000000) : Lib.atoiAll (Lib.decDigits n) = .ok (n : Int) := by
  have hv := valOf_dec n
  have hd := dec_isDig n
  have hl := (dec_length n h).1
  generalize Lib.decDigits n = l at *
  match l, hl with
  | c :: r, _ =>
    have hc : 48 ≤ c.toNat ∧ c.toNat ≤ 57 := by have := hd c (by simp); simpa [isDig] using this
    have hp : Lib.parseUint10 0 (c :: r) = .ok n := by rw [parseUint10_val _ _ hd (by omega), hv]
    have hm : Lib.parseMag (c :: r) = .ok n := by unfold Lib.parseMag; rw [if_neg (by simp), hp]
    simp only [Lib.atoiAll]
    rw [if_neg (by omega), hm]
    simp only
    rw [if_neg (by omega), if_neg (by omega), if_neg (by omega)]
/-- l is the decimal form of n, and n is at most MaxValue. -/
def Num (l : List UInt8) (n : Nat) : Prop := n ≤ 1000000000000 ∧ Lib.decDigits n = l
theorem itoa_nat (n : Nat) : Lib.itoa (n : Int) = Lib.decDigits n := Lib.itoa_nonneg n
theorem mk_toList (l : List UInt8) : (ByteArray.mk l.toArray).data.toList = l := by simp
theorem mk_size (l : List UInt8) : (ByteArray.mk l.toArray).size = l.length := by show l.toArray.size = _; simp
theorem mk_of_toList (s : ByteArray) : ByteArray.mk s.data.toList.toArray = s := by simp
end Go.Proofs.YtdhfkkhanjgomaaDoor
