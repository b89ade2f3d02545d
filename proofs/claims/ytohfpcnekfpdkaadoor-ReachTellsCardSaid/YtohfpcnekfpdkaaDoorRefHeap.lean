/- Layer reach: the document's own heap out of the program's. -/
import Derived.Test.YtohfpcnekfpdkaaDoorHeapPut
namespace Go.Proofs.YtohfpcnekfpdkaaDoor
open Go.RowKit

set_option maxHeartbeats 1000000 in
theorem refHeap_any (n : Int) (A : Option Addr) (L c : Nat) (w : World) :
    Calls Tryd.prog 28 #[hv n (.slice A L c)] w fun e w' => e = .returned (hv n (.slice A L c)) ∧ Below w.heap.size w w' := by
  go_enter Tryd.func28, Tryd.ntmps28
  go_wp2
  refine bodyPost_ret (v := hv n (.slice A L c)) (by simp [results, Tryd.results28, go_sem]) rfl ⟨rfl, ?_⟩
  exact (bal _ _).alloc (by simp) _
end Go.Proofs.YtohfpcnekfpdkaaDoor
