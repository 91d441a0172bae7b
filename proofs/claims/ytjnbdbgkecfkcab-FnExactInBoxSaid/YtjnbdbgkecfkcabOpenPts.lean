/- A slice of points as an argument of a law: opened to a list of pairs. -/
import Derived.Test.YtjnbdbgkecfkcabOpenPt
import Derived.Test.YtjnbdbgkecfkcabHelpE
import Derived.ChangeArms
import Derived.ChangeSame
namespace Go.Proofs.Ytjnbdbgkecfkcab
open Go.ChangeShapes Go.WideShapes Go.ChangeAt Go.RowKit Go.Joins
set_option linter.unusedVariables false
set_option maxRecDepth 100000

end Go.Proofs.Ytjnbdbgkecfkcab
