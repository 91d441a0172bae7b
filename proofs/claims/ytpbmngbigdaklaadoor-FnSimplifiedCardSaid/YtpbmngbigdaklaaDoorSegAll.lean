/- Segments: the contracts of HowMeet by values. -/
import Derived.Test.YtpbmngbigdaklaaDoorSegI5
import Derived.Test.YtpbmngbigdaklaaDoorSegS4
import Derived.Test.YtpbmngbigdaklaaDoorSegOn
namespace Go.Proofs.YtpbmngbigdaklaaDoor
open Go.ChangeShapes Go.WideShapes Go.ChangeAt Go.RowKit
set_option linter.unusedVariables false

end Go.Proofs.YtpbmngbigdaklaaDoor
