/- Nothing: the seat lacks the function. -/
import Derived.Test.YtpbmngbigdaklaaSegS4a
namespace Go.Proofs.Ytpbmngbigdaklaa
end Go.Proofs.Ytpbmngbigdaklaa
