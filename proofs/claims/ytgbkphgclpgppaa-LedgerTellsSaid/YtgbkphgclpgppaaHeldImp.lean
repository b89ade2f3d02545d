/- The library's tactics for regions that draw, for texts that want them all. -/
import Derived.Test.YtgbkphgclpgppaaCore
import Derived.Deep.RegionHeldLaw
import Derived.Deep.RegionLaw
import Derived.Deep.Cut
namespace Go.Proofs.Ytgbkphgclpgppaa
end Go.Proofs.Ytgbkphgclpgppaa
