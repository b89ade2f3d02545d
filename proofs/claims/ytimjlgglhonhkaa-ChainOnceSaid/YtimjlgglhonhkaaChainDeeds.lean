/- Layer chain: the array of what is done. -/
import Derived.Test.YtimjlgglhonhkaaChainTurn
import Derived.Test.YtimjlgglhonhkaaArr
namespace Go.Proofs.Ytimjlgglhonhkaa.ch
open Go.RowKit

/-- a method of the machine in block B -/
abbrev mf (f : FuncId) (B : Nat) : Value := .func (.func f) #[pt B] #[]
/-- all of them -/
def dcs (B : Nat) : Array Value := #[.nilFunc, .nilFunc, .nilFunc, mf 82 B, mf 83 B, mf 84 B, mf 85 B, mf 86 B, mf 87 B]
/-- those of one kind -/
def dks (B : Nat) (k : Int) : Array Value := if k = 1 then #[mf 82 B, mf 83 B, mf 84 B] else #[mf 85 B, mf 86 B, mf 87 B]
theorem info_deeds : (Try.prog.info? 96).map (·.size) = some 9 := by kernel_rfl
theorem dcs_one (B : Nat) : (dcs B).all (·.oneCell') = true := by simp [dcs, Value.oneCell']
theorem dcs_info (B : Nat) : (Try.prog.info? 96).map (·.size) = some (dcs B).size := info_deeds
set_option maxRecDepth 100000 in
set_option maxHeartbeats 2000000 in
theorem deeds_any (B : Nat) (w : World) : Calls Try.prog 56 #[pt B] w fun e w' => e = .returned (.agg (dcs B)) ∧ Below w.heap.size w w' := by
  go_enter Try.func56, Try.ntmps56
  go_wp2_with (refine wpList_store_row rfl 96 (.tmp 2) (.tmp 17) rfl w.heap.size rfl (dcs B) rfl _ _ (heap_alloc_new w _) (dcs_info B) rfl (dcs_one B) ?_)
  exact bodyPost_ret (results_row rfl w.heap.size rfl _ _ _ _ (setRow_heap _ w.heap.size _ (dcs B) _ _ (heap_alloc_new w _)) Try.underlying96 rfl (dcs_info B)) rfl ⟨rfl, below_setRow (bal _ _) (Nat.le_refl _) _⟩
end Go.Proofs.Ytimjlgglhonhkaa.ch
