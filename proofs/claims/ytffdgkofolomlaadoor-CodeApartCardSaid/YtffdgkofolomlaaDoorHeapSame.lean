/- Layer heap: Same, by slices.EqualFunc and slices.Equal. -/
import Derived.Test.YtffdgkofolomlaaDoorHeapRight
namespace Go.Proofs.YtffdgkofolomlaaDoor
open Go.RowKit

end Go.Proofs.YtffdgkofolomlaaDoor
