/- ParseInt of package impl and of the model: (n, true) at the decimal form of an n in 0 .. MaxValue, (0, false) at every other string. -/
import Derived.Test.YtdhfkkhanjgomaaDoorFmt
import Derived.Test.YtdhfkkhanjgomaaDoorTab
namespace Go.Proofs.YtdhfkkhanjgomaaDoor
open Go.ChangeShapes Go.WideShapes Go.ChangeAt Go.RowKit
set_option linter.unusedVariables false

/-- What strconv's two sentinel variables hold: each a value of an interface's type. -/
def Sent (w : World) : Prop := ∃ ev0 ev1, w.cell? ⟨0, 0, none⟩ = some ev0 ∧ (ev0 = .nilIface ∨ ∃ te pe, ev0 = .iface te pe) ∧ w.cell? ⟨1, 0, none⟩ = some ev1 ∧ (ev1 = .nilIface ∨ ∃ te pe, ev1 = .iface te pe)
/-- Atoi fails: an error that is not nil. -/
def AtoiBad (w : World) (e : Ending) (w' : World) : Prop := (∃ n te pe, e = .returned (.tuple #[.int .i64 n, .iface te (.pointer pe)])) ∧ Below w.heap.size w w'
theorem atoi_bad (s : ByteArray) (hlim : s.size ≤ 281474976710656) (h : ∀ v, Lib.atoiAll s.data.toList ≠ .ok v) (w : World) (hs : Sent w) :
    Calls Tryd.prog 27 #[.string s] w (AtoiBad w) := by
  obtain ⟨ev0, ev1, c0, e0, c1, e1⟩ := hs
  cases h' : Lib.atoiAll s.data.toList
  · exact absurd h' (h _)
  · exact (Any.strconv_Atoi_syntax Tryd.laysC172 s hlim h' ev0 w c0 e0).mono fun e w' ⟨N, he, _, _, hb⟩ => ⟨⟨_, _, _, he⟩, hb⟩
  · exact (Any.strconv_Atoi_range Tryd.laysC172 s hlim h' ev1 w c1 e1).mono fun e w' ⟨N, he, _, _, hb⟩ => ⟨⟨_, _, _, he⟩, hb⟩
theorem atoi_ok (s : ByteArray) (hmax : s.size ≤ 9223372036854775806) (v : Int) (h : Lib.atoiAll s.data.toList = .ok v) (w : World) :
    Calls Tryd.prog 27 #[.string s] w fun e w' => e = .returned (.tuple #[.int .i64 v, .nilIface]) ∧ Below w.heap.size w w' :=
  (Tryd.strconv_Atoi_ok s hmax v h w).mono fun e w' ⟨he, hw⟩ => ⟨he, by
    rcases hw with rfl | ⟨t, rfl⟩
    · exact Below.refl _ _
    · exact Lib.bytesWorld_below _ _ _⟩
theorem fmt_nat (n : Nat) (h1 : n ≤ 1000000000000) (w : World) (ht : PowTab w) :
    Calls Tryd.prog 10 #[.int .i64 (n : Int)] w fun e w' => e = .returned (.string ⟨(Lib.decDigits n).toArray⟩) ∧ Below w.heap.size w w' := by
  rw [← itoa_nat n]; exact fmt_any n (by omega) (by omega) w ht

/-- The text is the decimal form of no n in 0 .. MaxValue. -/
def NoNum (s : ByteArray) : Prop := ∀ n : Nat, n ≤ 1000000000000 → Lib.decDigits n ≠ s.data.toList

theorem read_yes (n : Nat) (h1 : n ≤ 1000000000000) (w : World) (ht : PowTab w) :
    Calls Tryd.prog 20 #[.string ⟨(Lib.decDigits n).toArray⟩] w fun e w' => e = .returned (.iface 44 (.agg #[.int .i64 n])) ∧ Below w.heap.size w w' := by
  have hat : Lib.atoiAll (ByteArray.mk (Lib.decDigits n).toArray).data.toList = .ok (n : Int) := by rw [mk_toList]; exact atoi_dec n h1
  have hsz : (ByteArray.mk (Lib.decDigits n).toArray).size ≤ 13 := by rw [mk_size]; exact (dec_length n h1).2
  have HA := Lib.hid hat; clear hat
  have HS := Lib.hid hsz; clear hsz
  go_enter Tryd.func20, Tryd.ntmps20
  go_wp2_with (go_at_call 27; refine (atoi_ok _ (by have := HS.out; omega) n HA.out _).mono ?_; rintro e w1 ⟨rfl, hb1⟩; refine Hid.out ?_)
  refine Lib.hid ?_
  have ht1 := powTab_below ht hb1
  go_wp2_with (first | (go_at_call 23; refine (in_is _ _ _ true _ (inB_yes (by omega) (by omega))).mono ?_; rintro e w' ⟨rfl, rfl⟩) | (go_at_call 10; refine (fmt_nat n h1 _ ht1).mono ?_; rintro e w2 ⟨rfl, hb2⟩))
  go_ret
  exact ⟨rfl, hb1.trans (hb2.mono hb1.size)⟩
theorem str_ne {a : List UInt8} {s : ByteArray} (h : a ≠ s.data.toList) : (ByteArray.mk a.toArray) ≠ s := by
  intro e; apply h; rw [← e]
theorem read_no (s : ByteArray) (hlim : s.size ≤ 281474976710656) (hno : NoNum s) (w : World) (ht : PowTab w) (hs : Sent w) :
    Calls Tryd.prog 20 #[.string s] w fun e w' => e = .returned (.iface 56 (.agg #[])) ∧ Below w.heap.size w w' := by
  by_cases hok : ∃ v, Lib.atoiAll s.data.toList = .ok v
  · obtain ⟨v, hv⟩ := hok
    have HA := Lib.hid hv; clear hv
    by_cases hin : 0 ≤ v ∧ v ≤ 1000000000000
    · obtain ⟨n, rfl⟩ : ∃ n : Nat, v = n := ⟨v.toNat, by omega⟩
      have h1 : n ≤ 1000000000000 := by omega
      have hne : (Lib.decDigits n == s.toList) = false := by
        rw [ByteArray.toList_eq]
        have := hno n h1
        simpa using this
      have HN := Lib.hid hno; clear hno
      go_enter Tryd.func20, Tryd.ntmps20
      go_wp2_with (go_at_call 27; refine (atoi_ok _ (by omega) n HA.out _).mono ?_; rintro e w1 ⟨rfl, hb1⟩; refine Hid.out ?_)
      refine Lib.hid ?_
      have ht1 := powTab_below ht hb1
      go_wp2_with (first | (go_at_call 23; refine (in_is _ _ _ true _ (inB_yes (by omega) (by omega))).mono ?_; rintro e w' ⟨rfl, rfl⟩) | (go_at_call 10; refine (fmt_nat n h1 _ ht1).mono ?_; rintro e w2 ⟨rfl, hb2⟩))
      go_ret
      exact ⟨rfl, hb1.trans (hb2.mono hb1.size)⟩
    · have hf : inB v 0 1000000000000 = false := by
        rcases (by omega : v < 0 ∨ 1000000000000 < v) with h | h
        · exact inB_low h
        · exact inB_high h
      have HF := Lib.hid hf; clear hf
      have HI := Lib.hid hin; clear hin
      have HN := Lib.hid hno; clear hno
      go_enter Tryd.func20, Tryd.ntmps20
      go_wp2_with (first | (go_at_call 27; refine (atoi_ok _ (by omega) v HA.out _).mono ?_; rintro e w1 ⟨rfl, hb1⟩) | (go_at_call 23; refine (in_is _ _ _ false _ HF.out).mono ?_; rintro e w' ⟨rfl, rfl⟩))
      go_ret
      exact ⟨rfl, hb1⟩
  · have HB : Hid (∀ v, Lib.atoiAll s.data.toList ≠ .ok v) := Lib.hid (fun v hv => hok ⟨v, hv⟩)
    clear hok
    have HN := Lib.hid hno; clear hno
    go_enter Tryd.func20, Tryd.ntmps20
    go_wp2_with (go_at_call 27; refine (atoi_bad _ hlim HB.out _ hs).mono ?_; rintro e w1 ⟨⟨n, te, pe, rfl⟩, hb1⟩)
    go_ret
    exact ⟨rfl, hb1⟩

/-- A numeral that is no decimal is not asserted as one. -/
theorem assert_no (w : World) : (Instr.typeAssert (.iface 56 (.agg #[])) 41 44 true).run Tryd.prog w = .ok (.tuple #[.agg #[.int .i64 0], .bool false]) w := by kernel_rfl
theorem assert_yes (n : Int) (w : World) : (Instr.typeAssert (.iface 44 (.agg #[.int .i64 n])) 41 44 true).run Tryd.prog w = .ok (.tuple #[.agg #[.int .i64 n], .bool true]) w := by kernel_rfl
theorem parse_yes (n : Nat) (h1 : n ≤ 1000000000000) (w : World) (ht : PowTab w) :
    Calls Tryd.prog 8 #[.string ⟨(Lib.decDigits n).toArray⟩] w fun e w' => e = .returned (.tuple #[.int .i64 n, .bool true]) ∧ Below w.heap.size w w' := by
  have has := assert_yes (n : Int)
  go_enter Tryd.func8, Tryd.ntmps8
  go_wp2_with (go_at_call 20; refine (read_yes n h1 _ ht).mono ?_; rintro e w1 ⟨rfl, hb1⟩)
  go_ret2
  exact ⟨rfl, by repeat (first | exact hb1 | apply Below.alloc | exact hb1.size | (apply Below.setCell; exact hb1.size))⟩
theorem parse_no (s : ByteArray) (hlim : s.size ≤ 281474976710656) (hno : NoNum s) (w : World) (ht : PowTab w) (hs : Sent w) :
    Calls Tryd.prog 8 #[.string s] w fun e w' => e = .returned (.tuple #[.int .i64 0, .bool false]) ∧ Below w.heap.size w w' := by
  have has := assert_no
  have HN := Lib.hid hno; clear hno
  go_enter Tryd.func8, Tryd.ntmps8
  go_wp2_with (go_at_call 20; refine (read_no s hlim HN.out _ ht hs).mono ?_; rintro e w1 ⟨rfl, hb1⟩)
  go_ret2
  exact ⟨rfl, hb1⟩
end Go.Proofs.YtdhfkkhanjgomaaDoor
