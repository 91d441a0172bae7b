/- Nothing: the seat lacks the function. -/
import Derived.Test.YtpbmngbigdaklaaSegS3
import Derived.Test.YtpbmngbigdaklaaTabs
namespace Go.Proofs.Ytpbmngbigdaklaa
end Go.Proofs.Ytpbmngbigdaklaa
