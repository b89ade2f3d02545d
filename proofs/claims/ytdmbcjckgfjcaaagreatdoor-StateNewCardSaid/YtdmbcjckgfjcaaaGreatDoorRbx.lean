/- Layer ledger: each call's contract, with named values. -/
import Derived.StillTailTactics
import Derived.Deep.Cut
import Derived.Shelf.Abstract
import Derived.Deep.RegionHeld3
import Derived.Test.YtdmbcjckgfjcaaaGreatDoorRaj
namespace Go.Proofs.YtdmbcjckgfjcaaaGreatDoor
open Go.RowKit
theorem Same_cLe (a b c : Int) (v : Value) (l : List Int) (a' b' c' : Int) (v' : Value) (l' : List Int) (w : World) (h1 : Ints w v l) (h2 : Ints w v' l') (r : Bool) (hr : lSame ⟨a, b, c, l⟩ ⟨a', b', c', l'⟩ = r) :
    Calls Tryz.prog 76 #[lv a b c v, lv a' b' c' v'] w fun e w' => e = .returned (.bool r) ∧ Below w.heap.size w w' := by
  subst hr; exact Same_anyLe a b c v l a' b' c' v' l' w h1 h2
end Go.Proofs.YtdmbcjckgfjcaaaGreatDoor
