/- Features: EqualFeatures and EqualSources of the model. -/
import Derived.Test.YtbnjaaegbmhopaaDoorFeatS
import Derived.Test.YtbnjaaegbmhopaaDoorLineE
import Derived.Deep.RegionHeld3
import Derived.Deep.DeepCutAuto
namespace Go.Proofs.YtbnjaaegbmhopaaDoor
open Go.ChangeShapes Go.WideShapes Go.ChangeAt Go.RowKit
set_option linter.unusedVariables false

instance decName (a b : ByteArray) : Decidable (a = b) := if h : a.data = b.data then .isTrue (by cases a; cases b; simp_all) else .isFalse (fun e => h (by rw [e]))
instance decFeat (f g : Feat) : Decidable (f = g) :=
  if h : f.1 = g.1 ∧ f.2.1 = g.2.1 ∧ f.2.2.1 = g.2.2.1 ∧ f.2.2.2.1 = g.2.2.2.1 ∧ f.2.2.2.2 = g.2.2.2.2 then .isTrue (by
    obtain ⟨f0, f1, f2, f3, f4⟩ := f
    obtain ⟨g0, g1, g2, g3, g4⟩ := g
    obtain ⟨h0, h1, h2, h3, h4⟩ := h
    dsimp only at h0 h1 h2 h3 h4
    rw [h0, h1, h2, h3, h4])
  else .isFalse (fun e => h (by rw [e]; exact ⟨rfl, rfl, rfl, rfl, rfl⟩))
instance decFeats : DecidableEq (List Feat) := @instDecidableEqList Feat decFeat
theorem str_ne {s s' : ByteArray} (h : ¬ s = s') : (s.toList == s'.toList) = false := by
  rw [ByteArray.toList_eq, ByteArray.toList_eq, beq_eq_false_iff_ne]
  intro e
  apply h
  obtain ⟨d⟩ := s
  obtain ⟨d'⟩ := s'
  have : d = d' := Array.toList_inj.1 e
  rw [this]
/-- Features whose points are few. -/
def FewQ (l : List Feat) : Prop := ∀ (j : Nat) (f : Feat), l[j]? = some f → f.2.2.2.2.length ≤ 1099511627776
theorem eqL_no {l l' : List Feat} {j : Nat} {f g : Feat} (hf : l[j]? = some f) (hg : l'[j]? = some g) (h : ¬ f = g) : ¬ l = l' := fun e => by
  subst e
  rw [hf] at hg
  exact h (Option.some.inj hg)
end Go.Proofs.YtbnjaaegbmhopaaDoor
