/- Boxes: BoxesOverlap of the model. -/
import Derived.Test.YtjnbdbgkecfkcaaBox
import Derived.Test.YtjnbdbgkecfkcaaTabs
import Derived.Deep.RegionHeld3
import Derived.Deep.DeepCutAuto
namespace Go.Proofs.Ytjnbdbgkecfkcaa
open Go.ChangeShapes Go.WideShapes Go.ChangeAt Go.RowKit
set_option linter.unusedVariables false

end Go.Proofs.Ytjnbdbgkecfkcaa
