/- Bits of numbers that are not negative, as arithmetic. -/
import Derived.Laws.BitsAllLaws
import Derived.Laws.BitsLemmas
import Derived.Laws.Bits128
namespace Go.Proofs.Ytalghkfkeaogfaa
open Go

theorem nat64 (a : Nat) (h : a < 9223372036854775808) : (BitVec.ofInt IntKind.i64.bits (a : Int)).toNat = a := by
  rw [BitVec.ofInt_natCast, BitVec.toNat_ofNat]
  exact Nat.mod_eq_of_lt (Nat.lt_of_lt_of_le h (by decide))
theorem wrap_nat (a : Nat) (h : a < 9223372036854775808) : IntKind.i64.wrap (a : Int) = a := by rw [IntKind.wrap_i64]; omega
theorem and64 (a b : Nat) (ha : a < 9223372036854775808) (hb : b < 9223372036854775808) : bits .and .i64 (a : Int) (b : Int) = ((a &&& b : Nat) : Int) := by
  have h : a &&& b ≤ b := Nat.and_le_right
  unfold bits
  simp only [BitVec.toNat_and, nat64 a ha, nat64 b hb]
  exact wrap_nat _ (by omega)
theorem or64 (a b : Nat) (ha : a < 9223372036854775808) (hb : b < 9223372036854775808) : bits .or .i64 (a : Int) (b : Int) = ((a ||| b : Nat) : Int) := by
  have h : a ||| b < 2 ^ 63 := Nat.or_lt_two_pow (by omega) (by omega)
  unfold bits
  simp only [BitVec.toNat_or, nat64 a ha, nat64 b hb]
  exact wrap_nat _ (by omega)
theorem and127 (m : Nat) (h : m < 9223372036854775808) : bits .and .i64 (m : Int) 127 = ((m % 128 : Nat) : Int) := by
  have e := and64 m 127 h (by decide)
  have e2 := Nat.and_two_pow_sub_one_eq_mod m 7
  simp only [Nat.reducePow, Nat.reduceSub] at e2
  rw [e2] at e
  exact e
theorem or128 (x : Nat) (h : x < 128) : bits .or .i64 (x : Int) 128 = ((x + 128 : Nat) : Int) := by
  have e := or64 x 128 (by omega) (by decide)
  have e2 := Nat.two_pow_add_eq_or_of_lt (b := x) (i := 7) (by omega) 1
  simp only [Nat.reducePow, Nat.mul_one] at e2
  rw [Nat.or_comm, ← e2, Nat.add_comm] at e
  exact e
theorem group_byte (m : Nat) (h : m < 9223372036854775808) : bits .or .i64 (bits .and .i64 (m : Int) 127) 128 % 256 = bits .or .u8 ((m : Int) % 128) 128 := by
  rw [and127 m h, or128 _ (Nat.mod_lt _ (by decide)), u8_or128_right _ (by omega) (by omega)]
  omega
/-- A group laid above what is read already. -/
theorem or_above (n x k : Nat) (hn : n < 128 ^ k) (hx : x < 128) (hk : k ≤ 5) : bits .or .i64 (n : Int) ((x * 128 ^ k : Nat) : Int) = ((n + x * 128 ^ k : Nat) : Int) := by
  have hp : (128 : Nat) ^ k = 2 ^ (7 * k) := by rw [Nat.pow_mul]
  have h5 : (128 : Nat) ^ k ≤ 128 ^ 5 := Nat.pow_le_pow_right (by decide) hk
  have h5' : (128 : Nat) ^ 5 = 34359738368 := by decide
  have hx2 : x * 128 ^ k ≤ 127 * 34359738368 := Nat.mul_le_mul (by omega) (by omega)
  rw [or64 n (x * 128 ^ k) (by omega) (by omega)]
  have e := Nat.two_pow_add_eq_or_of_lt (b := n) (i := 7 * k) (by rw [← hp]; exact hn) x
  rw [← hp] at e
  rw [Nat.or_comm, Nat.mul_comm x, ← e]
  congr 1
  omega
end Go.Proofs.Ytalghkfkeaogfaa
