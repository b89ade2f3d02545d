/- Layer chain: whether a machine has no step to do. -/
import Derived.Test.YtpffknlbffnafaaChainMach
import Derived.Test.YtpffknlbffnafaaDequeTurn
namespace Go.Proofs.Ytpffknlbffnafaa.ch
open Go.RowKit

/-- no step to do -/
def haltF (k p u : Int) : Bool := u != 0 || decide (k < 1) || decide (k > 2) || decide (p < 0) || decide (p ≥ 3)
set_option maxRecDepth 100000 in
set_option maxHeartbeats 2000000 in
theorem stops_any (k p s c b t x u : Int) (w : World) : Calls Try.prog 24 #[mvv k p s c b t x u] w fun e w' => e = .returned (.bool (haltF k p u)) ∧ Below w.heap.size w w' := by
  unfold haltF
  by_cases hu : u = 0
  · subst hu
    go_enter Try.func24, Try.ntmps24
    go_wp2
    all_goals
      go_ret
      exact ⟨ret_bool (by first | rfl | (simp only [bne_self_eq_false, Bool.false_or]; rfl) | simp), bal _ _⟩
  · have q0 : (u != 0) = true := by rw [bne_iff_ne]; exact hu
    rw [q0]
    clear hu
    go_enter Try.func24, Try.ntmps24
    go_wp2
    all_goals
      go_ret
      exact ⟨ret_bool (by simp), bal _ _⟩
end Go.Proofs.Ytpffknlbffnafaa.ch
