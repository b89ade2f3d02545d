/- The library's tactics for regions that draw, for texts that want them all. -/
import Derived.Test.YtffdgkofolomlaaDoorCore
import Derived.Deep.RegionHeldLaw
import Derived.Deep.RegionLaw
import Derived.Deep.Cut
namespace Go.Proofs.YtffdgkofolomlaaDoor
end Go.Proofs.YtffdgkofolomlaaDoor
