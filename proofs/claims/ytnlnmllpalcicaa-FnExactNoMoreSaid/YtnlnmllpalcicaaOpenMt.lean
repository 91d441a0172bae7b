/- A slice of meetings as an argument of a law. -/
import Derived.Test.YtnlnmllpalcicaaOpenE
import Derived.Test.YtnlnmllpalcicaaHelpE
namespace Go.Proofs.Ytnlnmllpalcicaa
open Go.ChangeShapes Go.WideShapes Go.ChangeAt Go.RowKit Go.Joins
set_option linter.unusedVariables false
set_option maxRecDepth 100000

theorem szOfMeet : Try.prog.cellsOf 33 = 3 := by kernel_rfl
theorem trod_meet {H : Type} {enc : TypeId × Value → H} {W : World} {base : Nat} {spare : Nat → Bool} {held : Bool} {n : Nat} {cs : List Value} {y : DataW H × List MemPlace}
    (h : DataW.trod enc Try.prog W base spare held n 33 cs = some y) : ∃ x : Mt3, cs = encMeet x := by
  obtain ⟨y0, y1, y2, m, hx, hlen, h0, h1, h2⟩ := Go.Deep.trod_struct3 Try.underlying33 h
  obtain ⟨c0, c1, c2, rfl⟩ : ∃ c0 c1 c2, cs = [c0, c1, c2] := by
    rw [szOfMeet] at hlen
    match cs, hlen with
    | [c0, c1, c2], _ => exact ⟨c0, c1, c2, rfl⟩
  have hc : Try.prog.cellsOf 3 = 1 := by kernel_rfl
  simp [hc] at h0 h1 h2
  obtain ⟨a, e0, -, -⟩ := DataW.trod_int Try.underlying3 h0
  obtain ⟨b, e1, -, -⟩ := DataW.trod_int Try.underlying3 h1
  obtain ⟨c, e2, -, -⟩ := DataW.trod_int Try.underlying3 h2
  simp at e0 e1 e2
  subst e0 e1 e2
  exact ⟨(a, b, c), rfl⟩
theorem open_meets {H : Type} {enc : TypeId × Value → H} {W : World} {base b0 : Nat} {spare : Nat → Bool} {held : Bool} {r : Reach} {v : Value} {d : DataW H} {p : List MemPlace}
    (hv : Value.okWide Try.prog W r b0 22 v) (h : DataW.Trod enc Try.prog W base spare held 22 v d p) :
    ∃ (a : Option Addr) (len cap : Nat) (l : List Mt3), v = .slice a len cap ∧ ShowsE 3 encMeet W a len cap l :=
  open_sliceE elMeet _ _ Try.underlying22 szOfMeet (fun m cs y h => trod_meet h) hv h
end Go.Proofs.Ytnlnmllpalcicaa
