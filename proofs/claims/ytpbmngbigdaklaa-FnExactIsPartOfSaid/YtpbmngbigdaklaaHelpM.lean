/- The laws' marks over slices of structs, and the look at them. -/
import Derived.Test.YtpbmngbigdaklaaHelpE
namespace Go.Proofs.Ytpbmngbigdaklaa
open Go.ChangeShapes Go.WideShapes Go.ChangeAt Go.RowKit
set_option linter.unusedVariables false

theorem growE_setCell {w w0 : World} {p : Nat} (hg : w0.grownBy w (some p)) (j : Nat) (v : Value) : w0.grownBy (w.setCell ⟨p, j, none⟩ v) (some p) :=
  ⟨hg.os, hg.tape, hg.output, Nat.le_trans hg.size (by simp [World.setCell]), fun k hk hne => (Below.heap_setCell _ _ _ _ (fun e => hne (by rw [e]))).trans (hg.block k hk hne)⟩
end Go.Proofs.Ytpbmngbigdaklaa
