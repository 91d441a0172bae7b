/- slices.Clone of points. -/
import Derived.Test.YtbnjaaegbmhopaaHelpE
import Derived.Laws.Cover3
import Derived.RangeFuncBox
namespace Go.Proofs.Ytbnjaaegbmhopaa
open Go.ChangeShapes Go.WideShapes Go.ChangeAt Go.RowKit
set_option linter.unusedVariables false

theorem OwnE.setUnder {α : Type} {n : Nat} {enc : α → List Value} {w : World} {lo b : Nat} {e : TypeId} {v : Value} {L : List α} (h : OwnE n enc w lo e v L) (hb : b < lo) (u : Value) : OwnE n enc (w.setCell ⟨b, 0, none⟩ u) lo e v L := by
  refine h.kept (grownBy_setCell' _ _ _) ?_
  cases hv : v.ownBlock with
  | none => exact .inl rfl
  | some g => right; intro e; have := (h.lt g hv).1; have := Option.some.inj e; omega
theorem sliceNil (A : Option Addr) (n c : Nat) (w : World) : (binOp .eql 47 (.slice A n c) (.slice none 0 0)).run Try.prog w = .ok (.bool A.isNone) w := by
  simp only [binOp]
  simp [run_equal_slice_nil w _ _ A n c Try.underlying47]
set_option maxRecDepth 100000 in
theorem clone_any (A : Option Addr) (c : Nat) (l : List (Int × Int)) (w : World) (hs : SeesE 2 encPoint w w.heap.size A l) (hl : l.length ≤ 549755813888) :
    Calls Try.prog 96 #[.slice A l.length c] w (GivesE 2 encPoint 25 l w) := by
  have HS := Lib.hid hs; clear hs
  go_enter Try.func96, Try.ntmps96
  cases A with
  | none =>
    obtain rfl : l = [] := by
      match l, HS with
      | [], _ => rfl
      | x :: r, hs => obtain ⟨b, off, hA, _⟩ := hs.out 0 x rfl; cases hA
    have hnil := sliceNil none 0 c
    rw [Option.isNone_none] at hnil
    go_wp2
    go_ret
    exact ⟨none, 0, [], Lib.hid rfl, rfl, OwnE.nil _ _ _, Below.refl _ _⟩
  | some ad =>
    have hnil := sliceNil (some ad) l.length c
    rw [Option.isNone_some] at hnil
    go_wp2_with (first
      | (at_builtin; refine appPoint _ rfl _ _ rfl w.heap.size _ [] rfl (OwnE.lit _ w.heap.size 25 (Nat.le_refl _)) _ (some ad) _ c l rfl rfl (HS.out.alloc (Nat.le_refl _) _) (by simp; omega) (by simp) ?_; intro A4 c4 L4 w4 hL4 h1 h2 ho4 hb4))
    go_ret
    exact ⟨A4, c4, L4, Lib.hid (by rw [hL4.out]; rfl), rfl, ho4, ((Below.refl _ _).alloc (Nat.le_refl _) _).trans hb4⟩
end Go.Proofs.Ytbnjaaegbmhopaa
