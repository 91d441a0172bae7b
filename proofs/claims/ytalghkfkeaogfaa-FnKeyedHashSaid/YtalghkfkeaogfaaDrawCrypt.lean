/- The model's draws of chapter 3. -/
import Derived.Test.YtalghkfkeaogfaaDrawEnc
namespace Go.Proofs.Ytalghkfkeaogfaa
open Go.RowKit
set_option linter.unusedVariables false

/-- The numbers that chapter 3 draws. -/
def W3 (l : List Int) : Prop := ∀ x ∈ l, -1 ≤ x ∧ x ≤ 2147483648
theorem W3.snoc {L L' : List Int} {x : Int} (h : W3 L) (h0 : -1 ≤ x) (h1 : x ≤ 2147483648) (e : L' = L ++ [x]) : W3 L' := by
  subst e
  intro y hy
  rcases List.mem_append.1 hy with hy | hy
  · exact h y hy
  · simp only [List.mem_singleton] at hy; subst hy; exact ⟨h0, h1⟩
theorem word_any (p : Nat) (w : World) (hc : Cur w p) :
    Calls Try.prog 45 #[.pointer (some ⟨p, 0, none⟩)] w (DInt p w (-1) 2147483648) := by
  go_enter Try.func45, Try.ntmps45
  go_wp2_with fail
  refine (once_any p 10 _ (by decide) (by decide) hc).mono ?_
  rintro e w1 ⟨⟨x, rfl⟩, hc1, hg1⟩
  cases x
  · go_wp2_with fail
    refine (once_any p 4 _ (by decide) (by decide) hc1).mono ?_
    rintro e w2 ⟨⟨x, rfl⟩, hc2, hg2⟩
    cases x
    · go_wp2_with fail
      refine (below_any p 1000000 _ (by decide) (by decide) hc2).mono ?_
      rintro e w3 ⟨⟨y, hy0, hy1, rfl⟩, hc3, hg3⟩
      go_wp2_with fail
      refine (below_any p 2000 _ (by decide) (by decide) hc3).mono ?_
      rintro e w4 ⟨⟨z, hz0, hz1, rfl⟩, hc4, hg4⟩
      have m0 : 0 ≤ y * z := Int.mul_nonneg hy0 hz0
      have m1 : y * z ≤ 1000000 * 2000 := Int.mul_le_mul (by omega) (by omega) hz0 (by decide)
      have m2 : y * z ≤ 2000000000 := by omega
      clear m1
      go_wp2
      go_ret
      exact ⟨⟨_, by omega, by omega, rfl⟩, hc4, grown_trans hg1 (grown_trans hg2 (grown_trans hg3 hg4))⟩
    · go_wp2_with fail
      refine (ints_made p 3 3 _ [0, 1, 2147483646] (-1) 2147483648 w2 _ _ rfl (by decide) (by decide) rfl rfl (by decide) hc2).mono ?_
      rintro e w3 ⟨⟨y, hy0, hy1, rfl⟩, hc3, hg3⟩
      go_wp2
      go_ret
      exact ⟨⟨_, hy0, hy1, rfl⟩, hc3, grown_trans hg1 (grown_trans hg2 hg3)⟩
  · go_wp2_with fail
    refine (ints_made p 3 3 _ [-1, 2147483647, 2147483648] (-1) 2147483648 w1 _ _ rfl (by decide) (by decide) rfl rfl (by decide) hc1).mono ?_
    rintro e w2 ⟨⟨y, hy0, hy1, rfl⟩, hc2, hg2⟩
    go_wp2
    go_ret
    exact ⟨⟨_, hy0, hy1, rfl⟩, hc2, grown_trans hg1 hg2⟩
/-- Numbers were drawn, at most m. -/
def DWords (p m : Nat) (w : World) (e : Ending) (w' : World) : Prop :=
  ∃ A c L, W3 L ∧ L.length ≤ m ∧ e = .returned (.slice A L.length c) ∧ Own w' w.heap.size 3 .i64 (.slice A L.length c) L ∧ Cur w' p ∧ w.grownBy w' (some p)
def WordsRel (p : Nat) (w : World) (v i : Value) (wr : World) : Prop :=
  ∃ (A : Option Addr) (c : Nat) (L : List Int) (j : Nat), i = .int .i64 j ∧ v = .slice A L.length c ∧ L.length + j ≤ 4 ∧ W3 L ∧ Own wr w.heap.size 3 .i64 (.slice A L.length c) L ∧ Cur wr p ∧ w.grownBy wr (some p)
set_option maxRecDepth 100000 in
theorem words_any (p : Nat) (w : World) (hc : Cur w p) :
    Calls Try.prog 50 #[.pointer (some ⟨p, 0, none⟩)] w (DWords p 4 w) := by
  have hp := cur_lt hc
  go_enter Try.func50, Try.ntmps50
  go_wp2_with fail
  refine (below_any p 5 _ (by decide) (by decide) (cur_alloc hc _)).mono ?_
  rintro e w1 ⟨⟨x, hx0, hx1, rfl⟩, hc1, hg1⟩
  obtain ⟨n, rfl⟩ : ∃ n : Nat, x = n := ⟨x.toNat, by omega⟩
  have hn : n ≤ 4 := by omega
  have HC1 := Lib.hid hc1
  have HG1 := Lib.hid (grown_trans (grown_alloc (grown_refl w (some p)) (.cells #[] 3)) hg1)
  have HO1 := Lib.hid (own_cursor (Own.lit w w.heap.size 3 .i64 (Nat.le_refl _)) hg1 hp)
  clear hc1 hg1 hx0 hx1
  go_wp2
  go_loopw [3, 4] (fun v i wr => WordsRel p w v i wr) (fun _ i _ => (intOf i).toNat)
  case atStart => exact ⟨_, 0, [], n, rfl, rfl, by simpa using hn, (fun _ h => by cases h), HO1.out, HC1.out, HG1.out⟩
  case round =>
    obtain ⟨A, c, L, j, rfl, rfl, hL, h3, ho, hcr, hg⟩ := hrel
    clear HO1 HC1 HG1
    have H3 : Hid (W3 L) := Lib.hid h3
    have HO := Lib.hid ho; have HG := Lib.hid hg; have HC := Lib.hid hcr
    clear h3 ho hg hcr
    by_cases hlt : 0 < j
    · go_wp2_with fail
      refine (word_any p _ HC.out).mono ?_
      rintro e w4 ⟨⟨x, hx0, hx1, rfl⟩, hc4, hg4⟩
      have HC4 := Lib.hid hc4
      have HG4 := Lib.hid (grown_trans HG.out hg4)
      have ho4 := own_cursor HO.out hg4 hp
      have hsz := HG4.out.size
      clear hc4 hg4
      go_wp2_with (at_builtin; refine app64 _ rfl _ _ rfl w.heap.size _ L rfl (ho4.alloc _) (w4.heap.size + 1) _ 1 _ [_] rfl rfl (sees_new w4 .i64 _ 3 _ (by omega)) (by simp; omega) (by simp; omega) ?_; intro A2 c2 L2 w5 hL2 h1 h2 ho2 hb2)
      go_roundw
      case rel => exact ⟨A2, c2, L2, j - 1, by go_num, rfl, by simp at h1; omega, W3.snoc H3.out hx0 hx1 hL2.out, ho2, cur_below (cur_alloc HC4.out _) hb2 hp, grown_below (grown_alloc HG4.out _) hb2 (Nat.le_refl _)⟩
      case measure => simp [intOf]; omega
    · obtain rfl : j = 0 := by omega
      go_wp2
      go_ret
      exact ⟨A, c, L, H3.out, by omega, rfl, HO.out, HC.out, HG.out⟩
/-- A number and bytes were drawn by a whole draw. -/
def GotIB (m : Nat) (w : World) (e : Ending) (w' : World) : Prop :=
  ∃ A c L, ∃ n : Int, -1 ≤ n ∧ n ≤ 2147483648 ∧ B8 L ∧ L.length ≤ m ∧ e = .returned (.tuple #[.int .i64 n, .slice A L.length c]) ∧ Own w' w.heap.size 5 .u8 (.slice A L.length c) L ∧ Below w.heap.size w w'
def GotIW (m : Nat) (w : World) (e : Ending) (w' : World) : Prop :=
  ∃ A c L, ∃ n : Int, -1 ≤ n ∧ n ≤ 2147483648 ∧ W3 L ∧ L.length ≤ m ∧ e = .returned (.tuple #[.int .i64 n, .slice A L.length c]) ∧ Own w' w.heap.size 3 .i64 (.slice A L.length c) L ∧ Below w.heap.size w w'
def GotIS (m : Nat) (w : World) (e : Ending) (w' : World) : Prop :=
  (∃ n : Int, ∃ s : ByteArray, -1 ≤ n ∧ n ≤ 2147483648 ∧ s.size ≤ m ∧ e = .returned (.tuple #[.int .i64 n, .string s])) ∧ Below w.heap.size w w'
theorem drawEncrypt_any (a : Option Addr) (len cap B : Nat) (w : World) (hc : Code w B a len) :
    Calls Try.prog 14 #[.slice a len cap] w (GotIB 7 w) := by
  go_enter Try.func14, Try.ntmps14
  go_wp2_with fail
  refine (new_any a len cap B _ hc).mono ?_
  rintro e w1 ⟨p, hp, rfl, hc1, hb1⟩
  go_wp2_with fail
  refine (word_any p _ hc1).mono ?_
  rintro e w2 ⟨⟨y, hy0, hy1, rfl⟩, hc2, hg2⟩
  go_wp2_with fail
  refine (below_any p 8 _ (by decide) (by decide) hc2).mono ?_
  rintro e w3 ⟨⟨x, hx0, hx1, rfl⟩, hc3, hg3⟩
  obtain ⟨k, rfl⟩ : ∃ k : Nat, x = k := ⟨x.toNat, by omega⟩
  have hk : k ≤ 7 := by omega
  go_wp2_with fail
  refine (bytes_any p k _ (by omega) hc3).mono ?_
  rintro e w4 ⟨A, c, L, h8, hL, rfl, ho4, hc4, hg4⟩
  go_wp2
  go_ret2
  have hs3 : w.heap.size ≤ w3.heap.size := Nat.le_trans hb1.size (Nat.le_trans hg2.size hg3.size)
  exact ⟨A, c, L, y, hy0, hy1, h8, by omega, rfl, ho4.mono hs3, below_grown hb1 (grown_trans hg2 (grown_trans hg3 hg4)) hb1.size hp⟩
theorem drawKeyed_any (a : Option Addr) (len cap B : Nat) (w : World) (hc : Code w B a len) :
    Calls Try.prog 18 #[.slice a len cap] w (GotIW 4 w) := by
  go_enter Try.func18, Try.ntmps18
  go_wp2_with fail
  refine (new_any a len cap B _ hc).mono ?_
  rintro e w1 ⟨p, hp, rfl, hc1, hb1⟩
  go_wp2_with fail
  refine (word_any p _ hc1).mono ?_
  rintro e w2 ⟨⟨y, hy0, hy1, rfl⟩, hc2, hg2⟩
  go_wp2_with fail
  refine (words_any p _ hc2).mono ?_
  rintro e w4 ⟨A, c, L, h3, hL, rfl, ho4, hc4, hg4⟩
  go_wp2
  go_ret2
  have hs3 : w.heap.size ≤ w2.heap.size := Nat.le_trans hb1.size hg2.size
  exact ⟨A, c, L, y, hy0, hy1, h3, hL, rfl, ho4.mono hs3, below_grown hb1 (grown_trans hg2 hg4) hb1.size hp⟩
theorem drawDerive_any (a : Option Addr) (len cap B : Nat) (w : World) (hc : Code w B a len) :
    Calls Try.prog 23 #[.slice a len cap] w (GotIS 4 w) := by
  go_enter Try.func23, Try.ntmps23
  go_wp2_with fail
  refine (new_any a len cap B _ hc).mono ?_
  rintro e w1 ⟨p, hp, rfl, hc1, hb1⟩
  go_wp2_with fail
  refine (word_any p _ hc1).mono ?_
  rintro e w2 ⟨⟨y, hy0, hy1, rfl⟩, hc2, hg2⟩
  go_wp2_with fail
  refine (strs_made p 6 6 _ [⟨#[]⟩, ⟨#[97]⟩, ⟨#[98]⟩, ⟨#[97, 98]⟩, ⟨#[110, 101, 119, 115]⟩, ⟨#[120]⟩] 4 w2 _ _ rfl (by decide) (by decide) rfl rfl (by decide) hc2).mono ?_
  rintro e w3 ⟨⟨s, hs, rfl⟩, hc3, hg3⟩
  go_wp2
  go_ret2
  exact ⟨⟨y, s, hy0, hy1, hs, rfl⟩, below_grown hb1 (grown_trans hg2 hg3) hb1.size hp⟩
end Go.Proofs.Ytalghkfkeaogfaa
