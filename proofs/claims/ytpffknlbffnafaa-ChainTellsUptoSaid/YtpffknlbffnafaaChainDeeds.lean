/- Layer chain: the array of what is done. -/
import Derived.Test.YtpffknlbffnafaaChainTurn
import Derived.Test.YtpffknlbffnafaaArr
namespace Go.Proofs.Ytpffknlbffnafaa.ch
open Go.RowKit

/-- a method of the machine in block B -/
abbrev mf (f : FuncId) (B : Nat) : Value := .func (.func f) #[pt B] #[]
/-- all of them -/
def dcs (B : Nat) : Array Value := #[.nilFunc, .nilFunc, .nilFunc, mf 32 B, mf 33 B, mf 34 B, mf 35 B, mf 36 B, mf 37 B]
/-- those of one kind -/
def dks (B : Nat) (k : Int) : Array Value := if k = 1 then #[mf 32 B, mf 33 B, mf 34 B] else #[mf 35 B, mf 36 B, mf 37 B]
theorem info_deeds : (Try.prog.info? 60).map (·.size) = some 9 := by kernel_rfl
theorem dcs_one (B : Nat) : (dcs B).all (·.oneCell') = true := by simp [dcs, Value.oneCell']
theorem dcs_info (B : Nat) : (Try.prog.info? 60).map (·.size) = some (dcs B).size := info_deeds
set_option maxRecDepth 100000 in
set_option maxHeartbeats 2000000 in
theorem deeds_any (B : Nat) (w : World) : Calls Try.prog 26 #[pt B] w fun e w' => e = .returned (.agg (dcs B)) ∧ Below w.heap.size w w' := by
  go_enter Try.func26, Try.ntmps26
  go_wp2_with (refine wpList_store_row rfl 60 (.tmp 2) (.tmp 17) rfl w.heap.size rfl (dcs B) rfl _ _ (heap_alloc_new w _) (dcs_info B) rfl (dcs_one B) ?_)
  exact bodyPost_ret (results_row rfl w.heap.size rfl _ _ _ _ (setRow_heap _ w.heap.size _ (dcs B) _ _ (heap_alloc_new w _)) Try.underlying60 rfl (dcs_info B)) rfl ⟨rfl, below_setRow (bal _ _) (Nat.le_refl _) _⟩
end Go.Proofs.Ytpffknlbffnafaa.ch
