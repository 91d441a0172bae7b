/- Features: IsName, FindFeature, EqualFeatures, EqualSources of package impl. -/
import Derived.Test.YtbnjaaegbmhopaaDoorFeatE
import Derived.LoopTactic
import Derived.Shelf.Abstract
import Derived.Deep.RegionHeld3
import Derived.Deep.DeepCutAuto
namespace Go.Proofs.YtbnjaaegbmhopaaDoor
open Go.ChangeShapes Go.WideShapes Go.ChangeAt Go.RowKit
set_option linter.unusedVariables false

theorem all_no {s : ByteArray} {k : Nat} (h : k < s.size) (hc : s[k].toNat < 97 ∨ 122 < s[k].toNat) : s.data.toList.all lowB = false := by
  rw [List.all_eq_false]
  refine ⟨s[k], name_mem s k h, ?_⟩
  simp only [lowB, Bool.and_eq_true, decide_eq_true_eq]
  omega
theorem all_end {s : ByteArray} (h : ∀ c ∈ s.data.toList.take s.size, lowB c = true) : s.data.toList.all lowB = true := by
  have hl : s.data.toList.length = s.size := Array.length_toList
  rw [← hl, List.take_length] at h
  exact List.all_eq_true.2 h
set_option maxRecDepth 100000 in
theorem areLetters_is (s : ByteArray) (z : Bool) (w : World) (hz : s.data.toList.all lowB = z) :
    Calls Tryd.prog 108 #[.string s] w fun e w' => e = .returned (.bool z) ∧ Below w.heap.size w w' := by
  have HZ := Lib.hid hz
  clear hz
  have HB := Lib.hid (fun p : Nat => (show Below w.heap.size w (w.iter s p) from (Below.refl _ _).alloc (Nat.le_refl _) _))
  go_enter Tryd.func108, Tryd.ntmps108
  go_wp2
  go_loopg [] s.size (fun g wr => ∃ pos : Nat, pos + g = s.size ∧ wr = w.iter s pos ∧ Hid (∀ c ∈ s.data.toList.take pos, lowB c = true))
  case atStart => exact ⟨0, by omega, rfl, Lib.hid (by simp)⟩
  case round =>
    obtain ⟨pos, hg, rfl, HT⟩ := hrel
    by_cases hp : pos < s.size
    · by_cases ha : (s[pos]'hp).toNat < 128
      · have hnx : ∀ ty, (Instr.next (.pointer (some ⟨w.heap.size, 0, none⟩)) true ty).run Tryd.prog (w.iter s pos) = _ := fun ty => run_next_ascii w s pos ty hp ha
        by_cases h1 : (s[pos]'hp).toNat < 97
        · have h1' : (((s[pos]'hp).toNat : Nat) : Int) < 97 := by omega
          obtain rfl : false = z := (all_no hp (.inl h1)).symm.trans HZ.out
          clear h1
          go_wp2
          go_ret
          exact ⟨rfl, HB.out _⟩
        · have h1' : ¬ (((s[pos]'hp).toNat : Nat) : Int) < 97 := by omega
          by_cases h2 : 122 < (s[pos]'hp).toNat
          · have h2' : (122 : Int) < (((s[pos]'hp).toNat : Nat) : Int) := by omega
            obtain rfl : false = z := (all_no hp (.inr h2)).symm.trans HZ.out
            clear h1 h2
            go_wp2
            go_ret
            exact ⟨rfl, HB.out _⟩
          · have h2' : ¬ (122 : Int) < (((s[pos]'hp).toNat : Nat) : Int) := by omega
            have HN := Lib.hid (name_step hp HT.out (by omega) (by omega))
            clear h1 h2
            go_wp2
            go_roundg (s.size - (pos + 1))
            case measure => omega
            case rel => exact ⟨pos + 1, by omega, rfl, HN⟩
      · have hnx : ∀ ty, (Instr.next (.pointer (some ⟨w.heap.size, 0, none⟩)) true ty).run Tryd.prog (w.iter s pos) = _ := fun ty => run_next_any w s pos ty hp
        have hd := (decode_high s pos hp (by omega)).1
        have hd2 := decode_le s pos
        obtain rfl : false = z := (all_no hp (.inr (by omega))).symm.trans HZ.out
        obtain ⟨r, hr⟩ : ∃ r, (Utf8.decode s pos).1 = r := ⟨_, rfl⟩
        rw [hr] at hd hd2 hnx
        have h1' : ¬ ((r : Nat) : Int) < 97 := by omega
        have h2' : (122 : Int) < ((r : Nat) : Int) := by omega
        clear hr
        go_wp2
        go_ret
        exact ⟨rfl, HB.out _⟩
    · have hnx : ∀ ty, (Instr.next (.pointer (some ⟨w.heap.size, 0, none⟩)) true ty).run Tryd.prog (w.iter s pos) = _ := fun ty => run_next_end w s pos ty hp
      obtain rfl : pos = s.size := by omega
      obtain rfl : true = z := (all_end HT.out).symm.trans HZ.out
      go_wp2
      go_ret
      exact ⟨rfl, HB.out _⟩
set_option maxRecDepth 100000 in
theorem isName_is (s : ByteArray) (z : Bool) (w : World) (hm : s.size ≤ maxLen) (hz : nameV s = z) :
    Calls Tryd.prog 92 #[.string s] w fun e w' => e = .returned (.bool z) ∧ Below w.heap.size w w' := by
  unfold maxLen at hm
  obtain ⟨p, hp⟩ : ∃ p, inB (s.size : Int) 1 8 = p := ⟨_, rfl⟩
  obtain ⟨q, hq⟩ : ∃ q, s.data.toList.all lowB = q := ⟨_, rfl⟩
  obtain rfl : (p && q) = z := by rw [← hz, ← hp, ← hq]; simp [nameV, Bool.and_comm]
  have HP := Lib.hid hp
  have HQ := Lib.hid hq
  clear hp hq hz
  go_enter Tryd.func92, Tryd.ntmps92
  cases p
  all_goals
    go_wp2_with (first
      | (go_at_call 50; refine (in_is _ _ _ _ _ HP.out).mono ?_; rintro e w1 ⟨rfl, rfl⟩)
      | (go_at_call 108; refine (areLetters_is s q _ HQ.out).mono ?_; rintro e w1 ⟨rfl, hb1⟩))
    go_ret
    first | exact ⟨rfl, hb1⟩ | exact ⟨rfl, Below.refl _ _⟩
end Go.Proofs.YtbnjaaegbmhopaaDoor
