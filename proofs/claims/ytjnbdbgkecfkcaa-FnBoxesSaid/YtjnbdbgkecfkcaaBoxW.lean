/- Boxes: what two boxes are joined to. -/
import Derived.Test.YtjnbdbgkecfkcaaBoxV
namespace Go.Proofs.Ytjnbdbgkecfkcaa
set_option linter.unusedVariables false

/-- The least box that has both. -/
def joinV (a b c d p q r s : Int) : BxR := if isBx a b c d && isBx p q r s then boxOfV [(a, b), (c, d), (p, q), (r, s)] else ((0, 0, 0, 0), false)
theorem join_1 {a b c d p q r s : Int} (h : isBx a b c d = false) : joinV a b c d p q r s = ((0, 0, 0, 0), false) := by simp [joinV, h]
theorem join_2 {a b c d p q r s : Int} (h : isBx p q r s = false) : joinV a b c d p q r s = ((0, 0, 0, 0), false) := by simp [joinV, h]
theorem join_3 {a b c d p q r s : Int} (h : isBx a b c d = true) (h1 : isBx p q r s = true) : joinV a b c d p q r s = boxOfV [(a, b), (c, d), (p, q), (r, s)] := by simp [joinV, h, h1]
end Go.Proofs.Ytjnbdbgkecfkcaa
