/- Features in memory: what a slice of features shows. -/
import Derived.Test.YtbnjaaegbmhopaaGreatDoorFeat
import Derived.Test.YtbnjaaegbmhopaaGreatDoorHelpE
namespace Go.Proofs.YtbnjaaegbmhopaaGreatDoor
open Go.ChangeShapes Go.WideShapes Go.ChangeAt Go.RowKit
set_option linter.unusedVariables false

/-- A feature's cells: its points are a slice. -/
abbrev FCel := Int × Int × Int × ByteArray × Option Addr × Nat × Nat
def encF (x : FCel) : List Value := [.int .i64 x.1, .int .i64 x.2.1, .int .i64 x.2.2.1, .string x.2.2.2.1, .slice x.2.2.2.2.1 x.2.2.2.2.2.1 x.2.2.2.2.2.2]
theorem elF : IsEl 5 encF := ⟨by decide, fun x => ⟨rfl, fun u hu => by simp only [encF, List.mem_cons, List.not_mem_nil, or_false] at hu; rcases hu with rfl | rfl | rfl | rfl | rfl <;> rfl⟩⟩
/-- A feature as a value, its points in a slice. -/
abbrev FtC (a k r : Int) (s : ByteArray) (A : Option Addr) (n c : Nat) : Array Value := #[.int .i64 a, .int .i64 k, .int .i64 r, .string s, .slice A n c]
abbrev FtV (a k r : Int) (s : ByteArray) (A : Option Addr) (n c : Nat) : Value := .agg (FtC a k r s A n c)
/-- What a feature's cells show: below block B. -/
def Deep (w : World) (B : Nat) (x : FCel) (f : Feat) : Prop :=
  x.1 = f.1 ∧ x.2.1 = f.2.1 ∧ x.2.2.1 = f.2.2.1 ∧ x.2.2.2.1 = f.2.2.2.1 ∧ x.2.2.2.2.2.1 = f.2.2.2.2.length ∧ SeesE 2 encPoint w B x.2.2.2.2.1 f.2.2.2.2 ∧ f.2.2.2.2.length ≤ x.2.2.2.2.2.2 ∧ (x.2.2.2.2.2.2 : Int) ≤ 9223372036854775807
/-- What a slice of features shows, below block B. -/
def SeesF (w : World) (B : Nat) (A : Option Addr) (l : List Feat) : Prop :=
  ∃ xs : List FCel, xs.length = l.length ∧ SeesE 5 encF w B A xs ∧ ∀ (j : Nat) x f, xs[j]? = some x → l[j]? = some f → Deep w B x f
section
variable {w w' : World} {B B' : Nat} {A : Option Addr} {l : List Feat} {x : FCel} {f : Feat}
theorem Deep.below (h : Deep w B x f) (hb : Below B w w') : Deep w' B x f := ⟨h.1, h.2.1, h.2.2.1, h.2.2.2.1, h.2.2.2.2.1, h.2.2.2.2.2.1.below hb, h.2.2.2.2.2.2⟩
theorem Deep.mono (h : Deep w B x f) (hB : B ≤ B') : Deep w B' x f := ⟨h.1, h.2.1, h.2.2.1, h.2.2.2.1, h.2.2.2.2.1, h.2.2.2.2.2.1.mono hB, h.2.2.2.2.2.2⟩
theorem SeesF.below (h : SeesF w B A l) (hb : Below B w w') : SeesF w' B A l := by
  obtain ⟨xs, h1, h2, h3⟩ := h
  exact ⟨xs, h1, h2.below hb, fun j x f hx hf => (h3 j x f hx hf).below hb⟩
theorem SeesF.mono (h : SeesF w B A l) (hB : B ≤ B') : SeesF w B' A l := by
  obtain ⟨xs, h1, h2, h3⟩ := h
  exact ⟨xs, h1, h2.mono hB, fun j x f hx hf => (h3 j x f hx hf).mono hB⟩
theorem SeesF.belowAll (h : SeesF w w.heap.size A l) (hb : Below w.heap.size w w') : SeesF w' w'.heap.size A l := (h.below hb).mono hb.size
theorem SeesF.nil : SeesF w B A [] := ⟨[], rfl, SeesE.nil, fun j x f hx => by simp at hx⟩
/-- One of them: where its cells lie, and its points. -/
theorem SeesF.at_ (h : SeesF w B A l) {j : Nat} {a k r : Int} {s : ByteArray} {ps : List (Int × Int)} (hf : l[j]? = some (a, k, r, s, ps)) :
    ∃ b off A' c, A = some ⟨b, off, none⟩ ∧ b < B ∧ SeesE 2 encPoint w B A' ps ∧ (ps.length ≤ c ∧ (c : Int) ≤ 9223372036854775807) ∧
      (w.cell? ⟨b, off + j * 5, none⟩ = some (.int .i64 a) ∧ w.cell? ⟨b, off + j * 5 + 1, none⟩ = some (.int .i64 k) ∧ w.cell? ⟨b, off + j * 5 + 2, none⟩ = some (.int .i64 r) ∧
        w.cell? ⟨b, off + j * 5 + 3, none⟩ = some (.string s) ∧ w.cell? ⟨b, off + j * 5 + 4, none⟩ = some (.slice A' ps.length c)) := by
  obtain ⟨xs, h1, h2, h3⟩ := h
  have hj : j < l.length := (List.getElem?_eq_some_iff.1 hf).1
  obtain ⟨⟨a', k', r', s', A', m, c⟩, hx⟩ : ∃ x, xs[j]? = some x := ⟨_, List.getElem?_eq_getElem (by omega)⟩
  obtain ⟨b, off, e, hb, hc⟩ := h2 j _ hx
  obtain ⟨e1, e2, e3, e4, e5, hs, hcap⟩ := h3 j _ _ hx hf
  dsimp only at e1 e2 e3 e4 e5 hs hcap
  subst e1 e2 e3 e4 e5
  exact ⟨b, off, A', c, e, hb, hs, hcap, hc 0 _ rfl, hc 1 _ rfl, hc 2 _ rfl, hc 3 _ rfl, hc 4 _ rfl⟩
/-- A cut. -/
theorem SeesF.cut (h : SeesF w B A l) (lo m : Nat) (A' : Option Addr) (hA : lo < l.length → A' = A.map (·.add (lo * 5))) : SeesF w B A' ((l.drop lo).take m) := by
  obtain ⟨xs, h1, h2, h3⟩ := h
  refine ⟨(xs.drop lo).take m, by rw [List.length_take, List.length_take, List.length_drop, List.length_drop, h1], h2.cut lo m A' (by rw [h1]; exact hA), fun j x f hx hf => ?_⟩
  rw [List.getElem?_take] at hx hf
  split at hx
  · next hm =>
    rw [if_pos hm, List.getElem?_drop] at hf
    rw [List.getElem?_drop] at hx
    exact h3 _ _ _ hx hf
  · cases hx
end
end Go.Proofs.YtbnjaaegbmhopaaGreatDoor
