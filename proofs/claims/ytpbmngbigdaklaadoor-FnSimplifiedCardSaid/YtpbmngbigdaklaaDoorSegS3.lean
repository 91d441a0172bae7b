/- Nothing: the seat lacks the function. -/
import Derived.Test.YtpbmngbigdaklaaDoorSegS2
import Derived.Test.YtpbmngbigdaklaaDoorMemP
import Derived.Test.YtpbmngbigdaklaaDoorTabs
namespace Go.Proofs.YtpbmngbigdaklaaDoor
end Go.Proofs.YtpbmngbigdaklaaDoor
