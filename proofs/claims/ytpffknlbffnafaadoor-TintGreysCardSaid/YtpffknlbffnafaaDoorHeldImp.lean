/- The library's tactics for regions that draw, for texts that want them all. -/
import Derived.Test.YtpffknlbffnafaaDoorCore
import Derived.Deep.RegionHeldLaw
import Derived.Deep.RegionLaw
import Derived.Deep.Cut
namespace Go.Proofs.YtpffknlbffnafaaDoor
end Go.Proofs.YtpffknlbffnafaaDoor
