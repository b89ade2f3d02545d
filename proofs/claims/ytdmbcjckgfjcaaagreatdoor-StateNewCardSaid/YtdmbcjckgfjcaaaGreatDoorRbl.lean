/- Layer heap: the calls, as statements meet them: what is answered bears names. -/
import Derived.Shelf.Strings.BuilderK
import Derived.Shelf.Strings.SlTrimAscii
import Derived.Shelf.Strconv.ErrVarAll
import Derived.Lib.SmallJoins
import Derived.Deep.OwnRows
import Derived.Deep.RegionLaw
import Derived.Deep.Cut
import Derived.Deep.CutRange
import Derived.Deep.RegionWith
import Derived.Deep.LoopGhost
import Derived.RegionDies
import Derived.Recover
import Derived.Defers
import Derived.Test.YtdmbcjckgfjcaaaGreatDoorRas
import Derived.Test.YtdmbcjckgfjcaaaGreatDoorRak
import Derived.Test.YtdmbcjckgfjcaaaGreatDoorRak
namespace Go.Proofs.YtdmbcjckgfjcaaaGreatDoor
open Go.RowKit Go.Shelf Go.Proofs
theorem Same_cHp (n m : Int) (va vb : Value) (a b : Rws) (w : World) (ha : Grid w va a) (hb : Grid w vb b) (r : Bool) (hr : sameF n a m b = r) :
    Calls Tryz.prog 72 #[hv n va, hv m vb] w fun e w' => e = .returned (.bool r) ∧ Below w.heap.size w w' := by
  subst hr; exact Same_anyHp n m va vb a b w ha hb
end Go.Proofs.YtdmbcjckgfjcaaaGreatDoor
