/- Meetings: values, the laws' own helpers (a copy, a comparison). -/
import Derived.Test.YtbnjaaegbmhopaaGreatDoorPoint
namespace Go.Proofs.YtbnjaaegbmhopaaGreatDoor
open Go.ChangeShapes Go.WideShapes Go.ChangeAt Go.RowKit
set_option linter.unusedVariables false

/-- A meeting: A, B, How. -/
abbrev Mt3 := Int × Int × Int
abbrev MtV (a b c : Int) : Value := .agg #[.int .i64 a, .int .i64 b, .int .i64 c]
theorem eqMeet_yes (a b c : Int) (w : World) :
    Calls Tryz.prog 72 #[MtV a b c, MtV a b c] w fun e w' => e = .returned (.bool true) ∧ Below w.heap.size w w' := by
  go_enter Tryz.func72, Tryz.ntmps72
  go_wp2
  go_ret
  exact ⟨rfl, ((Below.refl _ _).alloc (Nat.le_refl _) _).alloc (by simp) _⟩
/-- How many meetings are of one kind. -/
def cntM (l : List Mt3) (h : Int) : Int := ((l.filter fun m => decide (m.2.2 = h)).length : Int)
theorem cntM_zero (h : Int) (l : List Mt3) : cntM (l.take 0) h = 0 := by simp [cntM]
theorem cntM_yes {l : List Mt3} {h : Int} {j : Nat} {m : Mt3} (hm : l[j]? = some m) (he : m.2.2 = h) : cntM (l.take (j + 1)) h = cntM (l.take j) h + 1 := by
  simp [cntM, List.take_add_one, hm, he]
theorem cntM_no {l : List Mt3} {h : Int} {j : Nat} {m : Mt3} (hm : l[j]? = some m) (he : ¬ m.2.2 = h) : cntM (l.take (j + 1)) h = cntM (l.take j) h := by
  simp [cntM, List.take_add_one, hm, he]
theorem cntM_bd (l : List Mt3) (h : Int) (j : Nat) : 0 ≤ cntM (l.take j) h ∧ cntM (l.take j) h ≤ (j : Int) := by
  unfold cntM
  have := List.length_filter_le (fun m : Mt3 => decide (m.2.2 = h)) (l.take j)
  have h2 : (l.take j).length ≤ j := by rw [List.length_take]; exact Nat.min_le_left _ _
  omega
/-- Is one that meets as much among them? -/
def geM (m x : Mt3) : Bool := decide (x.1 = m.1) && (decide (x.2.1 = m.2.1) && decide (m.2.2 ≤ x.2.2))
def hasM (b : List Mt3) (m : Mt3) : Bool := b.any (geM m)
def noMoreV (a b : List Mt3) : Bool := a.all (hasM b)
theorem any_take {α : Type} {f : α → Bool} {l : List α} {j : Nat} {x : α} (hx : l[j]? = some x) : (l.take (j + 1)).any f = ((l.take j).any f || f x) := by
  rw [List.take_add_one, hx]; simp
theorem all_take {α : Type} {f : α → Bool} {l : List α} {j : Nat} {x : α} (hx : l[j]? = some x) : (l.take (j + 1)).all f = ((l.take j).all f && f x) := by
  rw [List.take_add_one, hx]; simp
theorem all_stop {α : Type} {f : α → Bool} {l : List α} {j : Nat} {x : α} (hx : l[j]? = some x) (hf : f x = false) : l.all f = false := by
  rw [List.all_eq_false]; exact ⟨x, List.mem_of_getElem? hx, by simp [hf]⟩
theorem noMore_self (a : List Mt3) : noMoreV a a = true := by
  unfold noMoreV
  rw [List.all_eq_true]
  intro m hm
  unfold hasM
  rw [List.any_eq_true]
  exact ⟨m, hm, by simp [geM]⟩
end Go.Proofs.YtbnjaaegbmhopaaGreatDoor
