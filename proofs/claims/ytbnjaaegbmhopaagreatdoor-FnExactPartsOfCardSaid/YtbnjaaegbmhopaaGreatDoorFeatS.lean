/- Features: IsName, IsFeature, IsSource and FindFeature of the model. -/
import Derived.Test.YtbnjaaegbmhopaaGreatDoorFeatM
import Derived.Test.YtbnjaaegbmhopaaGreatDoorVars
import Derived.LoopTactic
namespace Go.Proofs.YtbnjaaegbmhopaaGreatDoor
open Go.ChangeShapes Go.WideShapes Go.ChangeAt Go.RowKit
set_option linter.unusedVariables false

theorem name_take (s : ByteArray) (k : Nat) (h : k < s.size) : s.data.toList.take (k + 1) = s.data.toList.take k ++ [s[k]] := by
  rw [List.take_succ_eq_append_getElem (by simpa using h)]; rfl
theorem name_mem (s : ByteArray) (k : Nat) (h : k < s.size) : s[k] ∈ s.data.toList := by
  have : s[k] = s.data.toList[k]'(by simpa using h) := rfl
  rw [this]; exact List.getElem_mem _
theorem name_no {s : ByteArray} {k : Nat} (h : k < s.size) (hc : s[k].toNat < 97 ∨ 122 < s[k].toNat) : nameV s = false := by
  have : s.data.toList.all lowB = false := by
    rw [List.all_eq_false]
    refine ⟨s[k], name_mem s k h, ?_⟩
    simp only [lowB, Bool.and_eq_true, decide_eq_true_eq]
    omega
  simp [nameV, this]
theorem name_end {s : ByteArray} (h : ∀ c ∈ s.data.toList.take s.size, lowB c = true) : nameV s = inB (s.size : Int) 1 8 := by
  have hl : s.data.toList.length = s.size := Array.length_toList
  rw [← hl, List.take_length] at h
  have : s.data.toList.all lowB = true := List.all_eq_true.2 h
  simp [nameV, this]
theorem name_step {s : ByteArray} {k : Nat} (h : k < s.size) (ht : ∀ c ∈ s.data.toList.take k, lowB c = true) (h1 : 97 ≤ s[k].toNat) (h2 : s[k].toNat ≤ 122) : ∀ c ∈ s.data.toList.take (k + 1), lowB c = true := by
  rw [name_take s k h]
  intro c hc
  rw [List.mem_append, List.mem_singleton] at hc
  rcases hc with hc | rfl
  · exact ht c hc
  · simp only [lowB, Bool.and_eq_true, decide_eq_true_eq]; exact ⟨h1, h2⟩
theorem sIsName_is (s : ByteArray) (z : Bool) (w : World) (hm : s.size ≤ maxLen) (hz : nameV s = z) :
    Calls Tryz.prog 102 #[.string s] w fun e w' => e = .returned (.bool z) ∧ w = w' := by
  unfold maxLen at hm
  have HZ := Lib.hid hz
  clear hz
  go_enter Tryz.func102, Tryz.ntmps102
  go_wp2
  go_loop [3] (fun i => ∃ k : Nat, k ≤ s.size ∧ i = .int .i64 k ∧ Hid (∀ c ∈ s.data.toList.take k, lowB c = true)) (fun i => s.size - (intOf i).toNat)
  case atStart => exact ⟨0, Nat.zero_le _, rfl, Lib.hid (by simp)⟩
  case round =>
    obtain ⟨k, hk, rfl, HT⟩ := hrel
    by_cases hlt : k < s.size
    · have hu : ((s[k].toNat : Nat) : Int) ≤ 255 := by have := s[k].toNat_lt; omega
      have hlt' : (k : Int) < (s.size : Int) := by omega
      by_cases h1 : s[k].toNat < 97
      · have h1' : ((s[k].toNat : Nat) : Int) < 97 := by omega
        obtain rfl : false = z := (name_no hlt (.inl h1)).symm.trans HZ.out
        clear h1
        go_wp2
        go_ret
        exact ⟨rfl, rfl⟩
      · have h1' : ¬ ((s[k].toNat : Nat) : Int) < 97 := by omega
        by_cases h2 : 122 < s[k].toNat
        · have h2' : (122 : Int) < ((s[k].toNat : Nat) : Int) := by omega
          obtain rfl : false = z := (name_no hlt (.inr h2)).symm.trans HZ.out
          clear h1 h2
          go_wp2
          go_ret
          exact ⟨rfl, rfl⟩
        · have h2' : ¬ (122 : Int) < ((s[k].toNat : Nat) : Int) := by omega
          have HN := Lib.hid (name_step hlt HT.out (by omega) (by omega))
          clear h1 h2
          go_wp2
          go_round
          case rel => exact ⟨k + 1, by omega, by go_num, HN⟩
          case measure => simp [intOf]; omega
    · obtain rfl : k = s.size := by omega
      have hlt' : ¬ (s.size : Int) < (s.size : Int) := by omega
      have HI := Lib.hid ((name_end HT.out).symm.trans HZ.out)
      go_wp2_with fail
      refine (l1in_is _ _ _ z _ HI.out).mono ?_
      rintro e w9 ⟨rfl, rfl⟩
      go_wp2
      go_ret
      exact ⟨rfl, rfl⟩
theorem Vars.c5 {w0 w : World} {l : List (Array Value)} {v0 v1 v2 v3 v4 : Value} (h : Vars w0 w l) (b j : Nat) (hb : b = w0.heap.size + j) (hj : l[j]? = some #[v0, v1, v2, v3, v4]) : w.cell? ⟨b, 0, none⟩ = some v0 ∧ w.cell? ⟨b, 1, none⟩ = some v1 ∧ w.cell? ⟨b, 2, none⟩ = some v2 ∧ w.cell? ⟨b, 3, none⟩ = some v3 ∧ w.cell? ⟨b, 4, none⟩ = some v4 :=
  ⟨h.cell b j 0 hb hj rfl, h.cell b j 1 hb hj rfl, h.cell b j 2 hb hj rfl, h.cell b j 3 hb hj rfl, h.cell b j 4 hb hj rfl⟩
theorem Vars.c50 {w0 w : World} {l : List (Array Value)} {v0 v1 v2 v3 v4 : Value} (h : Vars w0 w (#[v0, v1, v2, v3, v4] :: l)) : w.cell? ⟨w0.heap.size, 0, none⟩ = some v0 ∧ w.cell? ⟨w0.heap.size, 1, none⟩ = some v1 ∧ w.cell? ⟨w0.heap.size, 2, none⟩ = some v2 ∧ w.cell? ⟨w0.heap.size, 3, none⟩ = some v3 ∧ w.cell? ⟨w0.heap.size, 4, none⟩ = some v4 := h.c5 _ 0 rfl rfl
end Go.Proofs.YtbnjaaegbmhopaaGreatDoor
