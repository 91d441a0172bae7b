/- The model's draws of lines: any rows, whole draws. -/
import Derived.Test.YtjnbdbgkecfkcaaDoorDrawLine
namespace Go.Proofs.YtjnbdbgkecfkcaaDoor
open Go.ChangeShapes Go.WideShapes Go.ChangeAt Go.RowKit
set_option linter.unusedVariables false

/-- A row of at most 11 points was drawn: it lies in a new block. -/
def LRow (p : Nat) (w : World) (e : Ending) (w' : World) : Prop :=
  ∃ A c l, e = .returned (.slice A l.length c) ∧ 1 ≤ l.length ∧ (l.length ≤ 11 ∧ l.length ≤ c ∧ (c : Int) ≤ 9223372036854775807) ∧ SeesE 2 encPoint w' w'.heap.size A l ∧ (∀ a, A = some a → w.heap.size ≤ a.block) ∧ Cur w' p ∧ w.grownBy w' (some p)
theorem OwnE.base {α : Type} {n : Nat} {enc : α → List Value} {w : World} {B m c : Nat} {e : TypeId} {A : Option Addr} {L : List α} (h : OwnE n enc w B e (.slice A m c) L) : ∀ a, A = some a → B ≤ a.block := fun a ha => by
  subst ha
  exact (h.lt a.block (by simp [Value.ownBlock])).1
theorem OwnE.caps {α : Type} {n : Nat} {enc : α → List Value} {w : World} {B m c : Nat} {e : TypeId} {A : Option Addr} {L : List α} (h : OwnE n enc w B e (.slice A m c) L) : L.length ≤ c ∧ (c : Int) ≤ 9223372036854775807 := by
  obtain ⟨A', c', hv, hc, hl⟩ := h.form
  simp only [Value.slice.injEq] at hv
  unfold maxLen at hc
  omega
theorem Rowed.lrow {p : Nat} {w w' : World} {A : Option Addr} {c : Nat} {L : List (Int × Int)} (h : Rowed p w w' (.slice A L.length c) L) (h1 : 1 ≤ L.length) (h2 : L.length ≤ 11) : LRow p w (.returned (.slice A L.length c)) w' :=
  ⟨A, c, L, rfl, h1, ⟨h2, h.2.2.2.caps⟩, h.2.2.2.sees elPoint, h.2.2.2.base, h.2.1, h.2.2.1⟩
def lenOf : Value → Nat
  | .slice _ n _ => n
  | _ => 0
theorem SeesE.kept {α : Type} {n : Nat} {enc : α → List Value} {w w' : World} {B p : Nat} {A : Option Addr} {l : List α} (h : SeesE n enc w B A l) (hg : w.grownBy w' (some p)) (hne : ∀ a, A = some a → a.block ≠ p) : SeesE n enc w' B A l := fun j x hj => by
  obtain ⟨b, off, e, hlt, hc⟩ := h j x hj
  exact ⟨b, off, e, hlt, fun k v hv => hg.cell (hc k v hv) (by have := hne _ e; simpa using this)⟩
/-- Whole draws. -/
def GotLine (w : World) (e : Ending) (w' : World) : Prop :=
  ∃ A c l, e = .returned (.slice A l.length c) ∧ 1 ≤ l.length ∧ (l.length ≤ 11 ∧ l.length ≤ c ∧ (c : Int) ≤ 9223372036854775807) ∧ SeesE 2 encPoint w' w'.heap.size A l ∧ Below w.heap.size w w'
def GotLines (w : World) (e : Ending) (w' : World) : Prop :=
  ∃ A c l A' c' l', e = .returned (.tuple #[.slice A l.length c, .slice A' l'.length c']) ∧ l.length ≤ 11 ∧ l'.length ≤ 11 ∧ SeesE 2 encPoint w' w'.heap.size A l ∧ SeesE 2 encPoint w' w'.heap.size A' l' ∧ Below w.heap.size w w'
end Go.Proofs.YtjnbdbgkecfkcaaDoor
