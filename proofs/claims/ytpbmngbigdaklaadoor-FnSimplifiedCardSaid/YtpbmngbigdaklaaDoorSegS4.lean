/- Nothing: the seat lacks the function. -/
import Derived.Test.YtpbmngbigdaklaaDoorSegS4a
namespace Go.Proofs.YtpbmngbigdaklaaDoor
end Go.Proofs.YtpbmngbigdaklaaDoor
