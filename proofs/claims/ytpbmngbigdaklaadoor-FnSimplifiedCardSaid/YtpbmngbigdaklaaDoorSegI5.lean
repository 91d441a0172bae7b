/- Segments: how two segments meet, in package impl. -/
import Derived.Test.YtpbmngbigdaklaaDoorSegI4
import Derived.ChangeKeysEq
namespace Go.Proofs.YtpbmngbigdaklaaDoor
open Go.ChangeShapes Go.WideShapes Go.ChangeAt Go.RowKit
set_option linter.unusedVariables false

end Go.Proofs.YtpbmngbigdaklaaDoor
