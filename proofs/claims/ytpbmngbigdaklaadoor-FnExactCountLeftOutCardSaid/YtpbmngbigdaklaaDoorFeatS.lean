/- Features: IsName, IsFeature, IsSource and FindFeature of the model. -/
import Derived.Test.YtpbmngbigdaklaaDoorFeatM
import Derived.Test.YtpbmngbigdaklaaDoorVars
import Derived.LoopTactic
namespace Go.Proofs.YtpbmngbigdaklaaDoor
open Go.ChangeShapes Go.WideShapes Go.ChangeAt Go.RowKit
set_option linter.unusedVariables false

theorem name_take (s : ByteArray) (k : Nat) (h : k < s.size) : s.data.toList.take (k + 1) = s.data.toList.take k ++ [s[k]] := by
  rw [List.take_succ_eq_append_getElem (by simpa using h)]; rfl
theorem name_mem (s : ByteArray) (k : Nat) (h : k < s.size) : s[k] ∈ s.data.toList := by
  have : s[k] = s.data.toList[k]'(by simpa using h) := rfl
  rw [this]; exact List.getElem_mem _
theorem name_no {s : ByteArray} {k : Nat} (h : k < s.size) (hc : s[k].toNat < 97 ∨ 122 < s[k].toNat) : nameV s = false := by
  have : s.data.toList.all lowB = false := by
    rw [List.all_eq_false]
    refine ⟨s[k], name_mem s k h, ?_⟩
    simp only [lowB, Bool.and_eq_true, decide_eq_true_eq]
    omega
  simp [nameV, this]
theorem name_end {s : ByteArray} (h : ∀ c ∈ s.data.toList.take s.size, lowB c = true) : nameV s = inB (s.size : Int) 1 8 := by
  have hl : s.data.toList.length = s.size := Array.length_toList
  rw [← hl, List.take_length] at h
  have : s.data.toList.all lowB = true := List.all_eq_true.2 h
  simp [nameV, this]
theorem name_step {s : ByteArray} {k : Nat} (h : k < s.size) (ht : ∀ c ∈ s.data.toList.take k, lowB c = true) (h1 : 97 ≤ s[k].toNat) (h2 : s[k].toNat ≤ 122) : ∀ c ∈ s.data.toList.take (k + 1), lowB c = true := by
  rw [name_take s k h]
  intro c hc
  rw [List.mem_append, List.mem_singleton] at hc
  rcases hc with hc | rfl
  · exact ht c hc
  · simp only [lowB, Bool.and_eq_true, decide_eq_true_eq]; exact ⟨h1, h2⟩
theorem Vars.c5 {w0 w : World} {l : List (Array Value)} {v0 v1 v2 v3 v4 : Value} (h : Vars w0 w l) (b j : Nat) (hb : b = w0.heap.size + j) (hj : l[j]? = some #[v0, v1, v2, v3, v4]) : w.cell? ⟨b, 0, none⟩ = some v0 ∧ w.cell? ⟨b, 1, none⟩ = some v1 ∧ w.cell? ⟨b, 2, none⟩ = some v2 ∧ w.cell? ⟨b, 3, none⟩ = some v3 ∧ w.cell? ⟨b, 4, none⟩ = some v4 :=
  ⟨h.cell b j 0 hb hj rfl, h.cell b j 1 hb hj rfl, h.cell b j 2 hb hj rfl, h.cell b j 3 hb hj rfl, h.cell b j 4 hb hj rfl⟩
theorem Vars.c50 {w0 w : World} {l : List (Array Value)} {v0 v1 v2 v3 v4 : Value} (h : Vars w0 w (#[v0, v1, v2, v3, v4] :: l)) : w.cell? ⟨w0.heap.size, 0, none⟩ = some v0 ∧ w.cell? ⟨w0.heap.size, 1, none⟩ = some v1 ∧ w.cell? ⟨w0.heap.size, 2, none⟩ = some v2 ∧ w.cell? ⟨w0.heap.size, 3, none⟩ = some v3 ∧ w.cell? ⟨w0.heap.size, 4, none⟩ = some v4 := h.c5 _ 0 rfl rfl
end Go.Proofs.YtpbmngbigdaklaaDoor
