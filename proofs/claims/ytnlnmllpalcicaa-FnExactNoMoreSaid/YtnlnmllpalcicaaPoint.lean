/- Points: what the functions of chapter 4 give, in package impl and in the model. -/
import Derived.Test.YtnlnmllpalcicaaInt
import Derived.Test.YtnlnmllpalcicaaMem
import Derived.Deep.LoopGhost
namespace Go.Proofs.Ytnlnmllpalcicaa
open Go.ChangeShapes Go.WideShapes Go.ChangeAt Go.RowKit
set_option linter.unusedVariables false

/-- A point, as a value. -/
abbrev PtV (x y : Int) : Value := .agg #[.int .i64 x, .int .i64 y]
/-- What a slice of points shows, below block B. -/
def SeesP (w : World) (B : Nat) (A : Option Addr) (ps : List (Int × Int)) : Prop :=
  ∀ (j : Nat) x y, ps[j]? = some (x, y) → ∃ b off, A = some ⟨b, off, none⟩ ∧ b < B ∧ w.cell? ⟨b, off + j * 2, none⟩ = some (.int .i64 x) ∧ w.cell? ⟨b, off + j * 2 + 1, none⟩ = some (.int .i64 y)
theorem SeesP.below {w w' : World} {B : Nat} {A : Option Addr} {ps : List (Int × Int)} (h : SeesP w B A ps) (hb : Below B w w') : SeesP w' B A ps := fun j x y hj => by
  obtain ⟨b, off, e, hlt, h1, h2⟩ := h j x y hj
  exact ⟨b, off, e, hlt, (hb.cell (p := ⟨b, off + j * 2, none⟩) hlt).trans h1, (hb.cell (p := ⟨b, off + j * 2 + 1, none⟩) hlt).trans h2⟩
theorem SeesP.at_ {w : World} {B : Nat} {A : Option Addr} {ps : List (Int × Int)} (h : SeesP w B A ps) {j : Nat} (hj : j < ps.length) :
    ∃ b off x y, A = some ⟨b, off, none⟩ ∧ b < B ∧ ps[j]? = some (x, y) ∧ w.cell? ⟨b, off + j * 2, none⟩ = some (.int .i64 x) ∧ w.cell? ⟨b, off + j * 2 + 1, none⟩ = some (.int .i64 y) := by
  obtain ⟨b, off, e, hlt, h1, h2⟩ := h j (ps[j]).1 (ps[j]).2 (List.getElem?_eq_getElem hj)
  exact ⟨b, off, _, _, e, hlt, List.getElem?_eq_getElem hj, h1, h2⟩
theorem ret_eq {a b : Bool} (h : a = b) : Ending.returned (.bool a) = .returned (.bool b) := by rw [h]
theorem ret_int {a b : Int} (h : a = b) : Ending.returned (.int .i64 a) = .returned (.int .i64 b) := by rw [h]
theorem bel_al {w w' : World} {B : Nat} (h : Below B w w') (hB : B ≤ w.heap.size) (o : Obj) : Below B w (w'.alloc o) := h.alloc (Nat.le_trans hB h.size) o

/-- Is it a point of the map? -/
def isP (x y : Int) : Bool := inB x 0 200 && inB y 0 200
theorem isP_no {x y : Int} (h : inB x 0 200 = false ∨ inB y 0 200 = false) : isP x y = false := by
  unfold isP; rcases h with h | h <;> simp [h]
theorem isP_yes {x y : Int} (h : inB x 0 200 = true) (h' : inB y 0 200 = true) : isP x y = true := by simp [isP, h, h']
theorem isP_bd {x y : Int} (h : isP x y = true) : 0 ≤ x ∧ x ≤ 200 ∧ 0 ≤ y ∧ y ≤ 200 := by
  simp [isP, inB] at h; omega
theorem isP_of {x y : Int} (h : 0 ≤ x) (h1 : x ≤ 200) (h2 : 0 ≤ y) (h3 : y ≤ 200) : isP x y = true := isP_yes (inB_yes h h1) (inB_yes h2 h3)
theorem isP_out {x y : Int} (h : isP x y = false) : ¬ (0 ≤ x ∧ x ≤ 200 ∧ 0 ≤ y ∧ y ≤ 200) := fun ⟨a, b, c, d⟩ => by rw [isP_of a b c d] at h; cases h
/-- All of them are points of the map. -/
def allP (ps : List (Int × Int)) : Bool := ps.all fun p => isP p.1 p.2
theorem allP_step {ps : List (Int × Int)} {k : Nat} {x y : Int} (h : ps[k]? = some (x, y)) (ht : allP (ps.take k) = true) (hp : isP x y = true) : allP (ps.take (k + 1)) = true := by
  rw [List.take_add_one, h]
  simp only [allP, List.all_append, Option.toList, List.all_cons, List.all_nil, Bool.and_true, Bool.and_eq_true]
  exact ⟨ht, hp⟩
theorem allP_stop {ps : List (Int × Int)} {k : Nat} {x y : Int} (h : ps[k]? = some (x, y)) (hp : isP x y = false) : allP ps = false := by
  unfold allP
  rw [List.all_eq_false]
  exact ⟨(x, y), List.mem_of_getElem? h, by simp [hp]⟩
end Go.Proofs.Ytnlnmllpalcicaa
