/- The exact law of EqualFeatures. -/
import Derived.Test.YtbnjaaegbmhopaaDoorFeatImpl
import Derived.Test.YtbnjaaegbmhopaaDoorOpenF
import Derived.Test.YtbnjaaegbmhopaaDoorOneVar
namespace Go.Proofs.YtbnjaaegbmhopaaDoor
open Go.ChangeShapes Go.WideShapes Go.ChangeAt Go.RowKit
set_option linter.unusedVariables false

section
variable {w0 w w' : World} {l : List (Array Value)} {m b : Nat} {v0 v1 v2 v3 v4 u0 u1 u2 u3 u4 : Value} {cs : Array Value}
theorem Vars.c55 (h : Vars w0 w (#[v0, v1, v2, v3, v4] :: #[u0, u1, u2, u3, u4] :: l)) :
    w.cell? ⟨w0.heap.size, 0, none⟩ = some v0 ∧ w.cell? ⟨w0.heap.size, 1, none⟩ = some v1 ∧ w.cell? ⟨w0.heap.size, 2, none⟩ = some v2 ∧ w.cell? ⟨w0.heap.size, 3, none⟩ = some v3 ∧ w.cell? ⟨w0.heap.size, 4, none⟩ = some v4 ∧
    w.cell? ⟨w0.heap.size + 1, 0, none⟩ = some u0 ∧ w.cell? ⟨w0.heap.size + 1, 1, none⟩ = some u1 ∧ w.cell? ⟨w0.heap.size + 1, 2, none⟩ = some u2 ∧ w.cell? ⟨w0.heap.size + 1, 3, none⟩ = some u3 ∧ w.cell? ⟨w0.heap.size + 1, 4, none⟩ = some u4 :=
  ⟨h.cell _ 0 0 rfl rfl rfl, h.cell _ 0 1 rfl rfl rfl, h.cell _ 0 2 rfl rfl rfl, h.cell _ 0 3 rfl rfl rfl, h.cell _ 0 4 rfl rfl rfl, h.cell _ 1 0 rfl rfl rfl, h.cell _ 1 1 rfl rfl rfl, h.cell _ 1 2 rfl rfl rfl, h.cell _ 1 3 rfl rfl rfl, h.cell _ 1 4 rfl rfl rfl⟩
theorem Vars.c55l (h : Vars w0 w (#[v0, v1, v2, v3, v4] :: #[u0, u1, u2, u3, u4] :: l)) :
    w.cell? ⟨w0.heap.size, 0, none⟩ = some v0 ∧ w.cell? ⟨w0.heap.size, 1, none⟩ = some v1 ∧ w.cell? ⟨w0.heap.size, 2, none⟩ = some v2 ∧ w.cell? ⟨w0.heap.size, 3, none⟩ = some v3 ∧ w.cell? ⟨w0.heap.size, 4, none⟩ = some v4 :=
  ⟨h.cell _ 0 0 rfl rfl rfl, h.cell _ 0 1 rfl rfl rfl, h.cell _ 0 2 rfl rfl rfl, h.cell _ 0 3 rfl rfl rfl, h.cell _ 0 4 rfl rfl rfl⟩
theorem Vars.c55r (h : Vars w0 w (#[v0, v1, v2, v3, v4] :: #[u0, u1, u2, u3, u4] :: l)) :
    w.cell? ⟨w0.heap.size + 1, 0, none⟩ = some u0 ∧ w.cell? ⟨w0.heap.size + 1, 1, none⟩ = some u1 ∧ w.cell? ⟨w0.heap.size + 1, 2, none⟩ = some u2 ∧ w.cell? ⟨w0.heap.size + 1, 3, none⟩ = some u3 ∧ w.cell? ⟨w0.heap.size + 1, 4, none⟩ = some u4 :=
  ⟨h.cell _ 1 0 rfl rfl rfl, h.cell _ 1 1 rfl rfl rfl, h.cell _ 1 2 rfl rfl rfl, h.cell _ 1 3 rfl rfl rfl, h.cell _ 1 4 rfl rfl rfl⟩
theorem both5 {p0 p1 p2 p3 p4 q : Prop} (h : p0 ∧ p1 ∧ p2 ∧ p3 ∧ p4) (h' : q) : p0 ∧ p1 ∧ p2 ∧ p3 ∧ p4 ∧ q := ⟨h.1, h.2.1, h.2.2.1, h.2.2.2.1, h.2.2.2.2, h'⟩
theorem OneV.c5 (h : OneV m w b #[v0, v1, v2, v3, v4]) : w.cell? ⟨b, 0, none⟩ = some v0 ∧ w.cell? ⟨b, 1, none⟩ = some v1 ∧ w.cell? ⟨b, 2, none⟩ = some v2 ∧ w.cell? ⟨b, 3, none⟩ = some v3 ∧ w.cell? ⟨b, 4, none⟩ = some v4 :=
  ⟨h.cell 0 rfl, h.cell 1 rfl, h.cell 2 rfl, h.cell 3 rfl, h.cell 4 rfl⟩
end
end Go.Proofs.YtbnjaaegbmhopaaDoor
