/- FormatInt of package impl and of the model: both give the decimal numeral, for every int. -/
import Derived.Test.YtdhfkkhanjgomaaDoorNum
import Derived.Test.YtdhfkkhanjgomaaDoorShelf
import Derived.Test.YtdhfkkhanjgomaaDoorInt
import Derived.Lib.AppendIntMem
import Derived.Laws.IdiomStrings
import Derived.Laws.Concat
import Derived.WalkLawsBesides
import Derived.WalkSpells
namespace Go.Proofs.YtdhfkkhanjgomaaDoor
open Go.ChangeShapes Go.WideShapes Go.ChangeAt Go.RowKit
set_option linter.unusedVariables false

theorem fmt_any (n : Int) (h0 : -9223372036854775808 ≤ n) (h1 : n ≤ 9223372036854775807) (w : World) (htab : Lib.TabIs Tryd.prog w "internal/strconv.uint64pow10" .u64 Lib.pow10Tab) :
    Calls Tryd.prog 10 #[.int .i64 n] w fun e w' => e = .returned (.string ⟨(Lib.itoa n).toArray⟩) ∧ Below w.heap.size w w' := by
  go_enter Tryd.func10, Tryd.ntmps10
  go_wp2_with (go_at_call 22; refine (Tryd.strconv_Itoa _ h0 h1 _ htab).mono ?_; rintro e w' ⟨rfl, k, os, rfl⟩)
  go_ret
  exact ⟨rfl, Lib.below_grow _ _ (Nat.le_refl _) _ _⟩

/-- The head of a round of the model's loop: digits l have been taken off, x is what is left of n. -/
def FmtRel (n : Int) (B : Nat) (w : World) (v3 v4 : Value) (wr : World) : Prop :=
  ∃ x : Int, ∃ l : List UInt8, v4 = .int .i64 x ∧ v3 = .string ⟨l.toArray⟩ ∧ digs0 n.natAbs = digs0 x.natAbs ++ l ∧
    -9223372036854775808 ≤ x ∧ x ≤ 9223372036854775807 ∧ (n < 0 → x ≤ 0) ∧ (0 ≤ n → 0 ≤ x) ∧ Below B w wr

/-- The byte of a digit. -/
def digB (d : Nat) : UInt8 := UInt8.ofNat (48 + d)
theorem digB_int (d : Nat) (h : d < 10) : (Value.int .u8 ((digB d).toNat : Int)) = .int .u8 (48 + (d : Int)) := by
  unfold digB; rw [digit_toNat d h]; congr 1
/-- string([]byte{c}) at a slice literal of one byte. -/
theorem conv_one (w : World) (b : Nat) (d : Nat) (z : Int) (hd : d < 10) (hz : z = 48 + (d : Int)) (hb : b = w.heap.size) :
    (convert 22 9 (.slice (some ⟨b, 0, none⟩) 1 1)).run Tryd.prog (w.alloc (.cells #[.int .u8 z] 5)) = .ok (.string ⟨[digB d].toArray⟩) (w.alloc (.cells #[.int .u8 z] 5)) := by
  refine run_convert_bytes_back (P := Tryd.prog) _ 22 9 5 ⟨b, 0, none⟩ 1 [digB d] Tryd.underlying22 Tryd.underlying5 Tryd.underlying9 ?_
  intro j hj
  have hj0 : j = 0 := by simp at hj; omega
  subst hj0; subst hb; subst hz
  simp only [List.getElem_cons_zero]
  rw [digB_int d hd]
  simp [Addr.add, go_sem]
theorem tdiv_abs (x : Int) : (x.tdiv 10).natAbs = x.natAbs / 10 := by rw [Int.natAbs_tdiv]; rfl
theorem tmod_abs (x : Int) : (x.tmod 10).natAbs = x.natAbs % 10 := by rw [Int.natAbs_tmod]; rfl
theorem tdiv_nonpos (x : Int) (h : x ≤ 0) : x.tdiv 10 ≤ 0 := by
  have h1 := Int.neg_tdiv (-x) 10
  rw [Int.neg_neg] at h1
  have h2 : 0 ≤ (-x).tdiv 10 := Int.tdiv_nonneg (by omega) (by decide)
  omega
theorem fmt_end (n : Int) (hz : n ≠ 0) (l : List UInt8) (hd : digs0 n.natAbs = digs0 (0 : Int).natAbs ++ l) : (if n < 0 then [45] else []) ++ l = Lib.itoa n := by
  rw [itoa_digs0 n hz, hd]; rfl
theorem fmt_step (n x y : Int) (l : List UInt8) (d : Nat) (hx : x ≠ 0) (hd : digs0 n.natAbs = digs0 x.natAbs ++ l) (hy : y.natAbs = x.natAbs / 10) (hdd : d = x.natAbs % 10) :
    digs0 n.natAbs = digs0 y.natAbs ++ ([digB d] ++ l) := by
  rw [hd, digs0_step x.natAbs (by omega), hy, hdd, List.append_assoc]; rfl
theorem ret_s {a b : List UInt8} (h : a = b) : Ending.returned (.string ⟨a.toArray⟩) = .returned (.string ⟨b.toArray⟩) := by rw [h]

theorem sfmt_any (n : Int) (h0 : -9223372036854775808 ≤ n) (h1 : n ≤ 9223372036854775807) (w : World) :
    Calls Tryd.prog 14 #[.int .i64 n] w fun e w' => e = .returned (.string ⟨(Lib.itoa n).toArray⟩) ∧ Below w.heap.size w w' := by
  by_cases hz : n = 0
  · subst hz
    go_enter Tryd.func14, Tryd.ntmps14
    go_wp2
    go_ret
    refine ⟨?_, Below.refl _ _⟩
    exact (ret_s (show Lib.itoa 0 = [48] by decide +kernel)).symm
  · go_enter Tryd.func14, Tryd.ntmps14
    go_wp2
    go_loopw [3, 4] (fun v3 v4 wr => FmtRel n w.heap.size w v3 v4 wr) (fun _ v4 _ => (intOf v4).natAbs)
    case atStart => exact ⟨n, [], rfl, rfl, by simp, h0, h1, by omega, by omega, Below.refl _ _⟩
    case round =>
      obtain ⟨x, l, rfl, rfl, hd, hx0, hx1, hneg, hpos, hb⟩ := hrel
      have hlen : l.length ≤ 20 := by
        have := digs0_length_le n.natAbs (by omega)
        rw [hd] at this; simp at this; omega
      have HD := Lib.hid hd; clear hd
      by_cases hx : x = 0
      · subst hx
        have hadd : (Op.stringOp .add ⟨#[45]⟩ ⟨l.toArray⟩).run Tryd.prog wr = .ok (.string ⟨([45] ++ l).toArray⟩) wr := run_string_add_lists (P := Tryd.prog) wr [45] l (by decide) (by omega)
        by_cases hn : n < 0
        · have e := fmt_end n hz l HD.out
          rw [if_pos hn] at e
          have HE := Lib.hid e; clear e
          go_wp2
          go_ret
          exact ⟨ret_s HE.out, hb⟩
        · have e := fmt_end n hz l HD.out
          rw [if_neg hn] at e
          have HE := Lib.hid e; clear e
          go_wp2
          go_ret
          exact ⟨ret_s HE.out, hb⟩
      · have hx' : (x == 0) = false := by simp [hx]
        have hxn : (x != 0) = true := by simp [hx]
        have hadd : ∀ d : Nat, ∀ W : World, (Op.stringOp .add ⟨[digB d].toArray⟩ ⟨l.toArray⟩).run Tryd.prog W = .ok (.string ⟨([digB d] ++ l).toArray⟩) W := fun d W => run_string_add_lists (P := Tryd.prog) W [digB d] l (by simp) (by omega)
        rcases (by omega : x < 0 ∨ 0 < x) with hs | hs
        · have b1 := tmod_bd x 10 (by omega) hs
          have hta := tmod_abs x
          have hda := tdiv_abs x
          by_cases ht : x.tmod 10 < 0
          · have hcv := conv_one wr wr.heap.size (x.natAbs % 10) (48 + -(x.tmod 10)) (Nat.mod_lt _ (by decide)) (by omega) rfl
            have HA := Lib.hid hta; have HB := Lib.hid hda; clear hta hda
            obtain ⟨b1, b2⟩ := b1
            have hm : (intOf (.int .i64 (x.tdiv 10))).natAbs < (intOf (.int .i64 x)).natAbs := by simp only [intOf]; have := HB.out; omega
            have HM := Lib.hid hm; clear hm
            have hs' : FmtRel n w.heap.size w (.string ⟨(digB (x.natAbs % 10) :: l).toArray⟩) (.int .i64 (x.tdiv 10)) (wr.alloc (.cells #[.int .u8 (48 + -x.tmod 10)] 5)) :=
              ⟨x.tdiv 10, _, rfl, rfl, fmt_step n x (x.tdiv 10) l _ hx HD.out HB.out rfl, by have := HB.out; omega, by have := HB.out; omega, by have := tdiv_nonpos x (by omega); omega, by omega, hb.alloc hb.size _⟩
            have HS := Lib.hid hs'; clear hs'
            go_wp2
            exact ⟨HS.out, HM.out⟩
          · have hcv := conv_one wr wr.heap.size (x.natAbs % 10) (48 + x.tmod 10) (Nat.mod_lt _ (by decide)) (by omega) rfl
            have HA := Lib.hid hta; have HB := Lib.hid hda; clear hta hda
            obtain ⟨b1, b2⟩ := b1
            have hm : (intOf (.int .i64 (x.tdiv 10))).natAbs < (intOf (.int .i64 x)).natAbs := by simp only [intOf]; have := HB.out; omega
            have HM := Lib.hid hm; clear hm
            have hs' : FmtRel n w.heap.size w (.string ⟨(digB (x.natAbs % 10) :: l).toArray⟩) (.int .i64 (x.tdiv 10)) (wr.alloc (.cells #[.int .u8 (48 + x.tmod 10)] 5)) :=
              ⟨x.tdiv 10, _, rfl, rfl, fmt_step n x (x.tdiv 10) l _ hx HD.out HB.out rfl, by have := HB.out; omega, by have := HB.out; omega, by have := tdiv_nonpos x (by omega); omega, by omega, hb.alloc hb.size _⟩
            have HS := Lib.hid hs'; clear hs'
            go_wp2
            exact ⟨HS.out, HM.out⟩
        · have hcv := conv_one wr wr.heap.size (x.natAbs % 10) (48 + x % 10) (Nat.mod_lt _ (by decide)) (by omega) rfl
          go_wp2
          go_roundw
          case rel => exact ⟨x / 10, _, rfl, rfl, fmt_step n x (x / 10) l _ hx HD.out (by omega) rfl, by omega, by omega, by omega, by omega, hb.alloc hb.size _⟩
          case measure => simp [intOf]; omega
end Go.Proofs.YtdhfkkhanjgomaaDoor
