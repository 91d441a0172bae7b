/- How far the marks go. -/
import Derived.Test.YtbnjaaegbmhopaaGreatDoorMarkF
import Derived.Test.YtbnjaaegbmhopaaGreatDoorFeatZ
namespace Go.Proofs.YtbnjaaegbmhopaaGreatDoor
open Go.ChangeShapes Go.WideShapes Go.ChangeAt Go.RowKit
set_option linter.unusedVariables false

def ptsF : List Feat → Nat
  | [] => 0
  | f :: t => f.2.2.2.2.length + ptsF t
theorem ptsF_app (l l2 : List Feat) : ptsF (l ++ l2) = ptsF l + ptsF l2 := by
  induction l with
  | nil => simp [ptsF]
  | cons f t ih => simp only [List.cons_append, ptsF, ih]; omega
theorem mkFq_eq (l : List Feat) : ∀ k, mkFq k l = k + 4 * l.length + 2 * ptsF l := by
  induction l with
  | nil => intro k; simp [mkFq, ptsF]
  | cons f t ih => intro k; simp only [mkFq, ptsF, ih, mkFn, List.length_cons]; omega
theorem ptsF_sub {l l2 : List Feat} (h : l.Sublist l2) : ptsF l ≤ ptsF l2 := by
  induction h with
  | slnil => exact Nat.le_refl _
  | cons a _ ih => simp only [ptsF]; omega
  | cons_cons a _ ih => simp only [ptsF]; omega
theorem szL_pts (l : List Feat) : ∀ left : Int, 0 ≤ left → 0 ≤ szL left l → (ptsF l : Int) ≤ left := by
  induction l with
  | nil => intro left h _; simpa [ptsF] using h
  | cons f t ih =>
    intro left h0 h
    unfold szL at h
    split at h
    · omega
    · next hn =>
      have h1 := ih (szF left f) (by omega) h
      have h2 : szF left f + f.2.2.2.2.length ≤ left := by
        unfold szF at hn ⊢
        split
        · next h3 => rw [if_pos h3] at hn; omega
        · next h3 =>
          rw [if_neg h3] at hn
          split
          · next h4 => rw [if_pos h4] at hn; omega
          · omega
      simp only [ptsF]
      omega
theorem szS_pts {l : List Feat} {left : Int} (h : 0 ≤ szS left l) : (ptsF l : Int) + l.length ≤ left := by
  unfold szS at h
  split at h
  · omega
  · next hn => have := szL_pts l (left - l.length) (by omega) h; omega
theorem rest_subl (l : List Feat) (i : Int) : (restV l i).Sublist (l.drop (cutK l i)) := rest_sub l i
theorem putOut_pts (l : List Feat) (f : Feat) : ptsF (putOut l f) ≤ ptsF l + f.2.2.2.2.length ∧ (putOut l f).length ≤ l.length + 1 := by
  have h1 : ptsF l = ptsF (l.take (cutK l f.1)) + ptsF (l.drop (cutK l f.1)) := by rw [← ptsF_app, List.take_append_drop]
  have h2 := ptsF_sub (rest_sub l f.1)
  have h3 := (rest_sub l f.1).length_le
  have h4 := cut_le l f.1
  unfold putOut
  rw [ptsF_app, ptsF_app]
  simp only [ptsF, List.length_append, List.length_take, List.length_drop, List.length_cons, List.length_nil] at h3 ⊢
  omega
theorem putV_pts (l : List Feat) (f : Feat) : ptsF (putV l f).1 ≤ ptsF l + f.2.2.2.2.length ∧ (putV l f).1.length ≤ l.length + 1 := by
  unfold putV
  split
  · exact putOut_pts l f
  · exact ⟨Nat.le_add_right _ _, Nat.le_succ _⟩
theorem takeV_pts (l : List Feat) (i : Int) : ptsF (takeV l i).1 ≤ ptsF l ∧ (takeV l i).1.length ≤ l.length := by
  unfold takeV
  split
  · have h1 : ptsF l = ptsF (l.take (findV l i).toNat) + ptsF (l.drop (findV l i).toNat) := by rw [← ptsF_app, List.take_append_drop]
    have hs : (l.drop ((findV l i).toNat + 1)).Sublist (l.drop (findV l i).toNat) := by
      rw [← List.drop_drop]; exact List.drop_sublist _ _
    have h2 := ptsF_sub hs
    rw [ptsF_app]
    simp only [List.length_append, List.length_take, List.length_drop]
    exact ⟨by omega, by omega⟩
  · exact ⟨Nat.le_refl _, Nat.le_refl _⟩
end Go.Proofs.YtbnjaaegbmhopaaGreatDoor
