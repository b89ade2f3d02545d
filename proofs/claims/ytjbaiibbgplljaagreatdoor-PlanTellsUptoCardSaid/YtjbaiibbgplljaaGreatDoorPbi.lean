import Derived.Deep.RegionHeld3
import Derived.Test.YtjbaiibbgplljaaGreatDoorPbf
import Derived.Test.YtjbaiibbgplljaaGreatDoorPbh
namespace Go.Proofs.YtjbaiibbgplljaaGreatDoor
open Go.RowKit Go.Shelf Go.Proofs
theorem rSame_cRf (n m : Int) (va vb : Value) (a b : Rws) (w : World) (ha : Grid w va a) (hb : Grid w vb b) (r : Bool) (hr : sameF n a m b = r) :
 Calls Tryz.prog 33 #[hv n va, hv m vb] w fun e w' => e = .returned (.bool r) ∧ Below w.heap.size w w' := by
 subst hr; exact rSame_anyRf n m va vb a b w ha hb
theorem rRight_cRf (n : Int) (v : Value) (ls : Rws) (w : World) (h : Grid w v ls) (b : Bool) (hb : rightF n ls = b) :
 Calls Tryz.prog 52 #[hv n v] w fun e w' => e = .returned (.bool b) ∧ Below w.heap.size w w' := by
 subst hb; exact rRight_anyRf n v ls w h
theorem same_reflRf (n : Int) (a : Rws) : sameF n a n a = true := by unfold sameF; simp
