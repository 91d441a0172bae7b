/- Nothing: the seat lacks the function. -/
import Derived.Test.YtpbmngbigdaklaaSegS2
import Derived.Test.YtpbmngbigdaklaaMemP
import Derived.Test.YtpbmngbigdaklaaTabs
namespace Go.Proofs.Ytpbmngbigdaklaa
end Go.Proofs.Ytpbmngbigdaklaa
