/- Points: moves: package impl and the model. -/
import Derived.Test.YtbnjaaegbmhopaaGreatDoorPoint3
namespace Go.Proofs.YtbnjaaegbmhopaaGreatDoor
open Go.ChangeShapes Go.WideShapes Go.ChangeAt Go.RowKit
set_option linter.unusedVariables false

/-- May the point be moved so? -/
def movB (a b p q : Int) : Bool := isP a b && (inB p (-1000) 1000 && (inB q (-1000) 1000 && isP (a + p) (b + q)))
def movX (a b p q : Int) : Int := if movB a b p q = true then a + p else a
def movY (a b p q : Int) : Int := if movB a b p q = true then b + q else b
theorem mov_no {a b p q : Int} (h : movB a b p q = false) : movB a b p q = false ∧ movX a b p q = a ∧ movY a b p q = b := by
  simp [movX, movY, h]
theorem mov_yes {a b p q : Int} (h : movB a b p q = true) : movB a b p q = true ∧ movX a b p q = a + p ∧ movY a b p q = b + q := by
  simp [movX, movY, h]
theorem mov_at {a b p q a' b' : Int} {r : Bool} (h : movB a b p q = r ∧ movX a b p q = a' ∧ movY a b p q = b') : Ending.returned (.tuple #[PtV a' b', .bool r]) = .returned (.tuple #[PtV (movX a b p q) (movY a b p q), .bool (movB a b p q)]) := by
  obtain ⟨rfl, rfl, rfl⟩ := h; rfl
theorem inB_bd {n l h : Int} (e : inB n l h = true) : l ≤ n ∧ n ≤ h := by simpa [inB] using e
end Go.Proofs.YtbnjaaegbmhopaaGreatDoor
