/- Layer code: what the laws stand on. -/
import Derived.Test.YtffdgkofolomlaaDoorCodeOpen
import Derived.Test.YtffdgkofolomlaaDoorCodeSome
import Derived.Test.YtffdgkofolomlaaDoorCodeEq
import Derived.Test.YtffdgkofolomlaaDoorHeldImp
