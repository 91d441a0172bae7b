/- Segments by values: calls on them, and what two of them should meet like. -/
import Derived.Test.YtbnjaaegbmhopaaGreatDoorSegAll
import Derived.Test.YtbnjaaegbmhopaaGreatDoorLine
import Derived.Test.YtbnjaaegbmhopaaGreatDoorHelpE
namespace Go.Proofs.YtbnjaaegbmhopaaGreatDoor
open Go.ChangeShapes Go.WideShapes Go.ChangeAt Go.RowKit
set_option linter.unusedVariables false

/-- A segment's value. -/
abbrev sV (s : Int × Int × Int × Int) : Value := SegV s.1 s.2.1 s.2.2.1 s.2.2.2
theorem sHowS_is (s t : Int × Int × Int × Int) (k : Int) (w : World) (h : howS s t = k) :
    Calls Tryz.prog 113 #[sV s, sV t] w fun e w' => e = .returned (.int .i64 k) ∧ Below w.heap.size w w' := sHowMeet_is _ _ _ _ _ _ _ _ k w h
theorem howS_is (s t : Int × Int × Int × Int) (k : Int) (w : World) (h : howS s t = k) :
    Calls Tryz.prog 95 #[sV s, sV t] w fun e w' => e = .returned (.int .i64 k) ∧ Below w.heap.size w w' := howMeet_is _ _ _ _ _ _ _ _ k w h
/-- What two segments at i < k should meet like. -/
def wantS (i k : Nat) : Int := if i + 1 = k then 1 else 0
theorem smp_no {l : List (Int × Int)} {i k : Nat} {u v : Int × Int × Int × Int} (hi : (sgV l)[i]? = some u) (hk : (sgV l)[k]? = some v) (hik : i < k) (h : ¬ howS u v = wantS i k) : smpV l = false := by
  have hkl := (List.getElem?_eq_some_iff.1 hk).1
  have : decide (∀ k, k < (sgV l).length → ∀ i, i < k → mtOk (sgV l) i k = true) = false := decide_eq_false fun g => by
    have := g k hkl i hik
    rw [mtOk_at hi hk, beq_iff_eq] at this
    exact h this
  unfold smpV
  rw [this]; rfl
theorem smp_all {l : List (Int × Int)} (h : ∀ k, k < (sgV l).length → ∀ i, i < k → mtOk (sgV l) i k = true) : isLn l = smpV l := by
  unfold smpV
  rw [decide_eq_true h, Bool.true_and]
theorem smp_ok {S : List (Int × Int × Int × Int)} {i k : Nat} {u v : Int × Int × Int × Int} (hi : S[i]? = some u) (hk : S[k]? = some v) (h : howS u v = wantS i k) : mtOk S i k = true := by
  rw [mtOk_at hi hk, beq_iff_eq]; exact h
theorem upto_step {p : Nat → Prop} {j : Nat} (h : ∀ i, i < j → p i) (hj : p j) : ∀ i, i < j + 1 → p i := fun i hi => by
  by_cases e : i = j
  · rw [e]; exact hj
  · exact h i (by omega)
theorem cells4 {w : World} {B : Nat} {b off j : Nat} {l : List (Int × Int × Int × Int)} {x : Int × Int × Int × Int} (h : SeesE 4 encSegment w B (some ⟨b, off, none⟩) l) (hj : l[j]? = some x) :
    w.cell? ⟨b, off + j * 4, none⟩ = some (.int .i64 x.1) ∧ w.cell? ⟨b, off + j * 4 + 1, none⟩ = some (.int .i64 x.2.1) ∧ w.cell? ⟨b, off + j * 4 + 2, none⟩ = some (.int .i64 x.2.2.1) ∧ w.cell? ⟨b, off + j * 4 + 3, none⟩ = some (.int .i64 x.2.2.2) :=
  cellsSegment (t0 := x.1) (t1 := x.2.1) (t2 := x.2.2.1) (t3 := x.2.2.2) h hj

end Go.Proofs.YtbnjaaegbmhopaaGreatDoor
