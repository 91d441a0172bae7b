/- Nothing: the seat lacks the function. -/
import Derived.Test.YtpbmngbigdaklaaDoorSegS3
import Derived.Test.YtpbmngbigdaklaaDoorTabs
namespace Go.Proofs.YtpbmngbigdaklaaDoor
end Go.Proofs.YtpbmngbigdaklaaDoor
