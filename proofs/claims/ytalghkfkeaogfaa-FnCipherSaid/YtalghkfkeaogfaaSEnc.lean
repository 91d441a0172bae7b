/- The model's encoders of chapter 2, and both encoders of lists. -/
import Derived.Test.YtalghkfkeaogfaaEnc
import Derived.Test.YtalghkfkeaogfaaBits
namespace Go.Proofs.Ytalghkfkeaogfaa
open Go.RowKit
set_option linter.unusedVariables false

def EncsRel (B : Nat) (l : List Int) (w : World) (v i : Value) (wr : World) : Prop :=
  ∃ (A : Option Addr) (c : Nat) (L : List Int) (j : Nat), j ≤ l.length ∧ v = .slice A L.length c ∧ i = .int .i64 j ∧ L = encs (l.take j) ∧ Own wr B 5 .u8 (.slice A L.length c) L ∧ Below B w wr
theorem encs_take {l : List Int} {j : Nat} {x : Int} (h : l[j]? = some x) : encs (l.take (j + 1)) = encs (l.take j) ++ enc x := by
  rw [List.take_add_one, h]; exact encs_snoc _ _
theorem encs_take_len {l L : List Int} {j : Nat} (h : L = encs (l.take j)) : L.length ≤ 6 * l.length := by
  rw [h]; have := encs_len (l.take j); rw [List.length_take] at this; omega
end Go.Proofs.Ytalghkfkeaogfaa
