/- Features: how much the laws weigh them; equal slices of features. -/
import Derived.Test.YtbnjaaegbmhopaaDoorFeatL
namespace Go.Proofs.YtbnjaaegbmhopaaDoor
open Go.ChangeShapes Go.WideShapes Go.ChangeAt Go.RowKit
set_option linter.unusedVariables false

/-- What is left when a feature is weighed; negative if it is too heavy. -/
def szF (left : Int) (f : Feat) : Int := if left < (f.2.2.2.1.size : Int) then -1 else if left - f.2.2.2.1.size < (f.2.2.2.2.length : Int) then -1 else left - f.2.2.2.1.size - f.2.2.2.2.length
def szL : Int → List Feat → Int
  | left, [] => left
  | left, f :: t => if szF left f < 0 then -1 else szL (szF left f) t
theorem szF_le {left : Int} {f : Feat} (h : 0 ≤ szF left f) : szF left f ≤ left ∧ (f.2.2.2.1.size : Int) ≤ left ∧ (f.2.2.2.2.length : Int) ≤ left := by
  unfold szF at h ⊢
  split at h
  · omega
  · split at h
    · omega
    · next h1 h2 => rw [if_neg h1, if_neg h2]; omega
theorem szL_le {left : Int} {l : List Feat} (h : 0 ≤ szL left l) : szL left l ≤ left ∧ ∀ f ∈ l, (f.2.2.2.1.size : Int) ≤ left ∧ (f.2.2.2.2.length : Int) ≤ left := by
  induction l generalizing left with
  | nil => exact ⟨Int.le_refl _, fun f hf => by cases hf⟩
  | cons g t ih =>
    unfold szL at h ⊢
    split at h
    · omega
    · next hz =>
      rw [if_neg hz]
      have h1 := szF_le (left := left) (f := g) (by omega)
      obtain ⟨h2, h3⟩ := ih h
      refine ⟨by omega, fun f hf => ?_⟩
      rw [List.mem_cons] at hf
      rcases hf with rfl | hf
      · exact h1.2
      · have := h3 f hf; omega
/-- The weights of the first j are known. -/
theorem szL_take {left z : Int} {l : List Feat} {j : Nat} {f : Feat} (hf : l[j]? = some f) (h : szL left (l.take j) = z) (hz : 0 ≤ z) : szL left (l.take (j + 1)) = if szF z f < 0 then -1 else szF z f := by
  induction l generalizing left j with
  | nil => simp at hf
  | cons g t ih =>
    cases j with
    | zero =>
      simp only [List.getElem?_cons_zero, Option.some.injEq] at hf
      subst hf
      simp only [List.take_zero, szL] at h
      subst h
      simp only [List.take_succ_cons, List.take_zero, szL]
    | succ j =>
      simp only [List.take_succ_cons, szL] at h ⊢
      split at h
      · omega
      · next hn => rw [if_neg hn]; exact ih (by simpa using hf) h
theorem szL_bad {left : Int} {l : List Feat} {j : Nat} (h : szL left (l.take j) < 0) (hl : 0 ≤ left) : szL left l < 0 := by
  induction l generalizing left j with
  | nil => simp only [List.take_nil] at h; exact h
  | cons g t ih =>
    cases j with
    | zero => simp only [List.take_zero, szL] at h; omega
    | succ j =>
      simp only [List.take_succ_cons, szL] at h ⊢
      split at h
      · next hn => rw [if_pos hn]; omega
      · next hn => rw [if_neg hn]; exact ih h (by omega)
set_option maxHeartbeats 1000000 in
theorem szFeature_is (a k r : Int) (s : ByteArray) (A : Option Addr) (c : Nat) (ps : List (Int × Int)) (left z : Int) (w : World) (h0 : 0 ≤ left) (h1 : left ≤ 1048576) (hm : s.size ≤ maxLen) (hp : ps.length ≤ 9223372036854775807) (hz : szF left (a, k, r, s, ps) = z) :
    Calls Tryd.prog 24 #[FtV a k r s A ps.length c, .int .i64 left] w fun e w' => e = .returned (.int .i64 z) ∧ Below w.heap.size w w' := by
  have HV := Lib.hid (Vars.of1 w (FtC a k r s A ps.length c) 42)
  unfold maxLen at hm
  unfold szF at hz
  dsimp only at hz
  go_enter Tryd.func24, Tryd.ntmps24
  by_cases hs : left < (s.size : Int)
  · rw [if_pos hs] at hz
    subst hz
    have hs' : left - (s.size : Int) < 0 := by omega
    go_wp2
    go_ret
    exact ⟨rfl, HV.out.1⟩
  · rw [if_neg hs] at hz
    have hs' : ¬ left - (s.size : Int) < 0 := by omega
    obtain ⟨m, hm2⟩ : ∃ m, left - (s.size : Int) = m := ⟨_, rfl⟩
    rw [hm2] at hz hs'
    have hm0 : 0 ≤ m := by omega
    have hm1 : m ≤ 1048576 := by omega
    by_cases hq : m < (ps.length : Int)
    · rw [if_pos hq] at hz
      subst hz
      go_wp2_with fail
      refine (szPointS_no A ps.length c m _ hq hm0 hp).mono ?_
      rintro e w1 ⟨rfl, rfl⟩
      go_wp2
      go_ret
      exact ⟨rfl, HV.out.1⟩
    · rw [if_neg hq] at hz
      have hq' : ¬ m - (ps.length : Int) < 0 := by omega
      go_wp2_with fail
      refine (szPointS_yes A ps.length c m _ (by omega) hm1).mono ?_
      rintro e w1 ⟨rfl, rfl⟩
      go_wp2
      go_ret
      exact ⟨by rw [← hz]; rfl, HV.out.1⟩
def szS (left : Int) (l : List Feat) : Int := if left < (l.length : Int) then -1 else szL (left - l.length) l
theorem szS_ok {left : Int} {l : List Feat} (h : 0 ≤ szS left l) : (l.length : Int) ≤ left ∧ szS left l ≤ left ∧ ∀ f ∈ l, (f.2.2.2.1.size : Int) ≤ left ∧ (f.2.2.2.2.length : Int) ≤ left := by
  unfold szS at h ⊢
  split at h
  · omega
  · next hn =>
    rw [if_neg hn]
    obtain ⟨h1, h2⟩ := szL_le h
    refine ⟨by omega, by omega, fun f hf => ?_⟩
    have := h2 f hf
    omega
theorem szF_cases (left : Int) (f : Feat) : szF left f = -1 ∨ 0 ≤ szF left f := by
  unfold szF
  split
  · exact .inl rfl
  · split
    · exact .inl rfl
    · next h1 h2 => right; omega
theorem szL_neg {left : Int} {l : List Feat} (h : szL left l < 0) (hl : 0 ≤ left) : szL left l = -1 := by
  induction l generalizing left with
  | nil => simp only [szL] at h; omega
  | cons g t ih =>
    unfold szL at h ⊢
    split
    · rfl
    · next hn => rw [if_neg hn] at h; exact ih h (by omega)
/-- Names and points that a machine holds. -/
def MachF (l : List Feat) : Prop := ∀ (j : Nat) (f : Feat), l[j]? = some f → f.2.2.2.1.size ≤ maxLen ∧ f.2.2.2.2.length ≤ 9223372036854775807
end Go.Proofs.YtbnjaaegbmhopaaDoor
