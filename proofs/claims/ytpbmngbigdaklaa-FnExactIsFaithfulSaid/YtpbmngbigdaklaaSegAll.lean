/- Segments: the contracts of HowMeet by values. -/
import Derived.Test.YtpbmngbigdaklaaSegI5
import Derived.Test.YtpbmngbigdaklaaSegS4
import Derived.Test.YtpbmngbigdaklaaSegOn
namespace Go.Proofs.Ytpbmngbigdaklaa
open Go.ChangeShapes Go.WideShapes Go.ChangeAt Go.RowKit
set_option linter.unusedVariables false

end Go.Proofs.Ytpbmngbigdaklaa
