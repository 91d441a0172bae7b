/- The law FnIntegers: its walk, for every input. -/
import Derived.Test.YtdhfkkhanjgomaaDoorLawParse
import Derived.Test.YtdhfkkhanjgomaaDoorDrawInt
namespace Go.Proofs.YtdhfkkhanjgomaaDoor
open Go.ChangeShapes Go.WideShapes Go.ChangeAt Go.RowKit
set_option linter.unusedVariables false

/-- How impl.ParseInt ends. -/
def PiOut (s : ByteArray) (w : World) (e : Ending) (w' : World) : Prop :=
  ((∃ n : Nat, n ≤ 1000000000000 ∧ s = ⟨(Lib.decDigits n).toArray⟩ ∧ e = .returned (.tuple #[.int .i64 n, .bool true])) ∨
   (e = .returned (.tuple #[.int .i64 0, .bool false]))) ∧ Below w.heap.size w w'
theorem parse_any (s : ByteArray) (hlim : s.size ≤ 281474976710656) (w : World) (ht : PowTab w) (hs : Sent w) :
    Calls Tryd.prog 8 #[.string s] w (PiOut s w) := by
  by_cases h : ∃ n : Nat, n ≤ 1000000000000 ∧ Lib.decDigits n = s.data.toList
  · obtain ⟨n, hn, hd⟩ := h
    have es : s = ⟨(Lib.decDigits n).toArray⟩ := by rw [hd]
    subst es
    exact (parse_yes n hn w ht).mono fun e w' ⟨he, hb⟩ => ⟨.inl ⟨n, hn, rfl, he⟩, hb⟩
  · exact (parse_no s hlim (fun n hn hd => h ⟨n, hn, hd⟩) w ht hs).mono fun e w' ⟨he, hb⟩ => ⟨.inr he, hb⟩
theorem noNum_itoa (m : Int) (h : m < 0 ∨ 1000000000000 < m) : NoNum ⟨(Lib.itoa m).toArray⟩ := by
  rcases h with h | h
  · refine noNum_digit 45 ?_ (by decide)
    have e : Lib.itoa m = 45 :: Lib.decDigits m.natAbs := by unfold Lib.itoa; rw [if_pos h]
    simp [e]
  · obtain ⟨k, rfl⟩ : ∃ k : Nat, m = k := ⟨m.toNat, by omega⟩
    intro n hn e
    rw [mk_toList, itoa_nat] at e
    have h1 := valOf_dec n
    rw [e, valOf_dec] at h1
    omega
/-- ParseInt of FormatInt's text. -/
def PfOut (m : Int) (w : World) (e : Ending) (w' : World) : Prop :=
  ((0 ≤ m ∧ m ≤ 1000000000000 ∧ e = .returned (.tuple #[.int .i64 m, .bool true])) ∨
   (m < 0 ∧ e = .returned (.tuple #[.int .i64 0, .bool false])) ∨ (1000000000000 < m ∧ e = .returned (.tuple #[.int .i64 0, .bool false]))) ∧ Below w.heap.size w w'
theorem parse_fmt (m : Int) (h0 : -9223372036854775808 ≤ m) (h1 : m ≤ 9223372036854775807) (w : World) (ht : PowTab w) (hs : Sent w) :
    Calls Tryd.prog 8 #[.string ⟨(Lib.itoa m).toArray⟩] w (PfOut m w) := by
  by_cases h : 0 ≤ m ∧ m ≤ 1000000000000
  · obtain ⟨n, rfl⟩ : ∃ n : Nat, m = n := ⟨m.toNat, by omega⟩
    rw [itoa_nat]
    exact (parse_yes n (by omega) w ht).mono fun e w' ⟨he, hb⟩ => ⟨.inl ⟨by omega, by omega, he⟩, hb⟩
  · exact (parse_no _ (by rw [mk_size]; have := itoa_len m h0 h1; omega) (noNum_itoa m (by omega)) w ht hs).mono fun e w' ⟨he, hb⟩ => ⟨.inr ((by omega : m < 0 ∨ 1000000000000 < m).elim (fun h => .inl ⟨h, he⟩) fun h => .inr ⟨h, he⟩), hb⟩
theorem ceil_is (a b q : Int) (w : World) (h : ceilV a b = q) :
    Calls Tryd.prog 12 #[.int .i64 a, .int .i64 b] w fun e w' => e = .returned (.int .i64 q) ∧ w = w' := by subst h; exact ceil_any a b w
theorem mod_is (a b r : Int) (w : World) (h : modV a b = r) :
    Calls Tryd.prog 13 #[.int .i64 a, .int .i64 b] w fun e w' => e = .returned (.int .i64 r) ∧ w = w' := by subst h; exact mod_any a b w
theorem ceil_bd (a b : Int) (ha : 0 ≤ a) (hb : 1 ≤ b) : a ≤ (a + b - 1) / b * b ∧ (a + b - 1) / b * b < a + b ∧ 0 ≤ (a + b - 1) / b := by
  have h1 := Int.mul_ediv_add_emod (a + b - 1) b
  have h2 : 0 ≤ (a + b - 1) % b := Int.emod_nonneg _ (by omega)
  have h3 : (a + b - 1) % b < b := Int.emod_lt_of_pos _ (by omega)
  have h4 : 0 ≤ (a + b - 1) / b := Int.ediv_nonneg (by omega) (by omega)
  rw [Int.mul_comm] at h1
  omega
theorem mod_shift (t b : Int) (hb : 1 ≤ b) : (t - (t + b)).tmod b = 0 := by
  rw [show t - (t + b) = -b by omega, Int.neg_tmod, Int.tmod_self]; rfl

theorem ret_b {b : Bool} (h : b = true) : Ending.returned (.bool b) = .returned (.bool true) := by rw [h]

set_option maxRecDepth 100000 in
set_option maxHeartbeats 4000000 in
theorem law_integers (a : Option Addr) (len cap : Nat) (w : World) (hc : Code w w.heap.size a len) (ht : PowTab w) (hs : Sent w) :
    Calls Tryd.prog 3 #[.slice a len cap] w fun e w' => e = .returned (.bool true) ∧ Below w.heap.size w w' := by
  have hlen := hc.1
  by_cases hbig : 1048576 < len
  · go_enter Tryd.func3, Tryd.ntmps3
    go_wp2_with fail
    refine (big_yes a len cap _ hbig).mono ?_
    rintro e w0 ⟨rfl, rfl⟩
    go_wp2
    go_ret
    exact ⟨rfl, Below.refl _ _⟩
  · go_enter Tryd.func3, Tryd.ntmps3
    go_wp2_with fail
    refine (big_no a len cap _ (by omega)).mono ?_
    rintro e w0 ⟨rfl, rfl⟩
    go_wp2_with fail
    refine (drawParseInt_any a len cap _ _ hc).mono ?_
    rintro e w1 ⟨⟨s, hsz, rfl⟩, hb1⟩
    have ht1 := powTab_below ht hb1
    have hs1 := sent_below hs hb1
    have hc1 := code_below hc hb1
    go_wp2_with fail
    refine (parse_any s (by omega) _ ht1 hs1).mono ?_
    rintro e w2 ⟨ho, hb2⟩
    have ht2 := powTab_below ht1 hb2
    have hs2 := sent_below hs1 hb2
    have hb2' := hb1.trans (hb2.mono hb1.size)
    have hc2 := code_below hc hb2'
    have HO : Hid ((∃ n : Nat, n ≤ 1000000000000 ∧ s = ⟨(Lib.decDigits n).toArray⟩ ∧ e = .returned (.tuple #[.int .i64 n, .bool true])) ∨
   (e = .returned (.tuple #[.int .i64 0, .bool false]))) := Lib.hid ho
    clear ho
    rcases HO.out with ⟨n, hn, rfl, rfl⟩ | rfl
    all_goals
      clear HO
      go_wp2_with fail
      refine (drawFormatInt_any a len cap _ _ hc2).mono ?_
      rintro e w3 ⟨⟨m, hm0, hm1, rfl⟩, hb3⟩
      have ht3 := powTab_below ht2 (hb3)
      have hs3 := sent_below hs2 (hb3)
      have hb3' := hb2'.trans (hb3.mono hb2'.size)
      have hc3 := code_below hc hb3'
      go_wp2_with fail
      refine (fmt_any m hm0 hm1 _ ht3).mono ?_
      rintro e w4 ⟨rfl, hb4⟩
      have ht4 := powTab_below ht3 (hb4)
      have hs4 := sent_below hs3 (hb4)
      have hb4' := hb3'.trans (hb4.mono hb3'.size)
      have hc4 := code_below hc hb4'
      go_wp2_with fail
      refine (parse_fmt m hm0 hm1 _ ht4 hs4).mono ?_
      rintro e w5 ⟨⟨hm2, hm3, rfl⟩ | ⟨hm2, rfl⟩ | ⟨hm2, rfl⟩, hb5⟩
      all_goals
        have ht5 := powTab_below ht4 (hb5)
        have hb5' := hb4'.trans (hb5.mono hb4'.size)
        have hc5 := code_below hc hb5'
        clear ht1 ht2 ht3 ht4 hs1 hs2 hs3 hs4 hc1 hc2 hc3 hc4 hb1 hb2 hb3 hb4 hb5 hb2' hb3' hb4' hc
        go_wp2_with fail
        refine (drawCeilDiv_any a len cap _ _ hc5).mono ?_
        rintro e w6 ⟨⟨x, y, hx0, hx1, hy0, hy1, rfl⟩, hb6⟩
        have ht6 := powTab_below ht5 (hb6)
        have hb6' := hb5'.trans (hb6.mono hb5'.size)
        clear hc5 ht5 hb6 hb5'
        rcases (by omega : (y < 1 ∨ 1000000000000 < y) ∨ (1 ≤ y ∧ y ≤ 1000000000000)) with hy | ⟨hy, hy'⟩
        · have hq : ceilV x y = 0 := ceilV_out (by omega)
          have hr : modV x y = 0 := modV_out (by omega)
          have HQ := Lib.hid hq; have HR := Lib.hid hr; clear hq hr
          rcases hy with hy | hy
          all_goals
            go_wp2_with (first | (go_at_call 12; refine (ceil_is _ _ _ _ HQ.out).mono ?_; rintro e w7 ⟨rfl, rfl⟩) | (go_at_call 13; refine (mod_is _ _ _ _ HR.out).mono ?_; rintro e w7 ⟨rfl, rfl⟩) | (go_at_call 10; refine (fmt_nat n hn _ ht6).mono ?_; rintro e w7 ⟨rfl, hb7⟩))
            go_ret
            first | exact ⟨rfl, hb6'⟩ | exact ⟨rfl, hb6'.trans (hb7.mono hb6'.size)⟩
        · rcases (by omega : x < 0 ∨ (0 ≤ x ∧ x ≤ 1000000000000) ∨ 1000000000000 < x) with hx | ⟨hx, hx'⟩ | hx
          · have hq : ceilV x y = 0 := ceilV_out (by omega)
            have t0 := (tmod_bd x y hy hx).1
            have t1 := (tmod_bd x y hy hx).2
            by_cases hz : x.tmod y < 0
            · have hr : modV x y = x.tmod y + y := by rw [modV_in hy hy']; exact (mod_neg x y hy hx hz).symm
              have he : (x.tmod y - (x.tmod y + y)).tmod y = 0 := mod_shift _ _ hy
              have HQ := Lib.hid hq; have HR := Lib.hid hr; clear hq hr
              go_wp2_with (first | (go_at_call 12; refine (ceil_is _ _ _ _ HQ.out).mono ?_; rintro e w7 ⟨rfl, rfl⟩) | (go_at_call 13; refine (mod_is _ _ _ _ HR.out).mono ?_; rintro e w7 ⟨rfl, rfl⟩) | (go_at_call 10; refine (fmt_nat n hn _ ht6).mono ?_; rintro e w7 ⟨rfl, hb7⟩))
              go_ret
              first | exact ⟨rfl, hb6'⟩ | exact ⟨rfl, hb6'.trans (hb7.mono hb6'.size)⟩
            · have hr : modV x y = x.tmod y := by rw [modV_in hy hy']; exact (mod_zero x y hy hx hz).symm
              have he : x.tmod y = 0 := by omega
              rw [he] at hr
              have HQ := Lib.hid hq; have HR := Lib.hid hr; clear hq hr
              go_wp2_with (first | (go_at_call 12; refine (ceil_is _ _ _ _ HQ.out).mono ?_; rintro e w7 ⟨rfl, rfl⟩) | (go_at_call 13; refine (mod_is _ _ _ _ HR.out).mono ?_; rintro e w7 ⟨rfl, rfl⟩) | (go_at_call 10; refine (fmt_nat n hn _ ht6).mono ?_; rintro e w7 ⟨rfl, hb7⟩))
              go_ret
              first | exact ⟨rfl, hb6'⟩ | exact ⟨rfl, hb6'.trans (hb7.mono hb6'.size)⟩
          · have hq : ceilV x y = (x + y - 1) / y := ceilV_in hx hx' hy hy'
            have hr : modV x y = x % y := modV_in hy hy'
            have r0 : 0 ≤ x % y := Int.emod_nonneg _ (by omega)
            have r1 : x % y < y := Int.emod_lt_of_pos _ (by omega)
            obtain ⟨c0, c1, c2⟩ := ceil_bd x y hx hy
            obtain ⟨q, hqq⟩ : ∃ q, q = (x + y - 1) / y := ⟨_, rfl⟩
            rw [← hqq] at hq c0 c1 c2
            have HQ := Lib.hid hq; have HR := Lib.hid hr; clear hq hr hqq
            go_wp2_with (first | (go_at_call 12; refine (ceil_is _ _ _ _ HQ.out).mono ?_; rintro e w7 ⟨rfl, rfl⟩) | (go_at_call 13; refine (mod_is _ _ _ _ HR.out).mono ?_; rintro e w7 ⟨rfl, rfl⟩) | (go_at_call 10; refine (fmt_nat n hn _ ht6).mono ?_; rintro e w7 ⟨rfl, hb7⟩))
            go_ret
            have hfin : decide (q * y - x < y) = true := by simp; omega
            first | exact ⟨ret_b hfin, hb6'⟩ | exact ⟨ret_b hfin, hb6'.trans (hb7.mono hb6'.size)⟩
          · have hq : ceilV x y = 0 := ceilV_out (by omega)
            have hr : modV x y = x % y := modV_in hy hy'
            have r0 : 0 ≤ x % y := Int.emod_nonneg _ (by omega)
            have r1 : x % y < y := Int.emod_lt_of_pos _ (by omega)
            have HQ := Lib.hid hq; have HR := Lib.hid hr; clear hq hr
            go_wp2_with (first | (go_at_call 12; refine (ceil_is _ _ _ _ HQ.out).mono ?_; rintro e w7 ⟨rfl, rfl⟩) | (go_at_call 13; refine (mod_is _ _ _ _ HR.out).mono ?_; rintro e w7 ⟨rfl, rfl⟩) | (go_at_call 10; refine (fmt_nat n hn _ ht6).mono ?_; rintro e w7 ⟨rfl, hb7⟩))
            go_ret
            first | exact ⟨rfl, hb6'⟩ | exact ⟨rfl, hb6'.trans (hb7.mono hb6'.size)⟩
theorem law_integers_laid (W : World) (a : Option Addr) (len cap : Nat) (z : List Int) (hrow : IsRow .u8 W a len cap z) (hL : laidMet Tryd.prog Rows.fnIntegersRow.laid W) :
    Calls Tryd.prog 3 #[.slice a len cap] W fun e w' => e = .returned (.bool true) ∧ Below W.heap.size W w' :=
  law_integers a len cap W (code_of_row hrow) (powTab_of hL.tail.tail) (sent_of hL.tail.tail.tail)
end Go.Proofs.YtdhfkkhanjgomaaDoor
