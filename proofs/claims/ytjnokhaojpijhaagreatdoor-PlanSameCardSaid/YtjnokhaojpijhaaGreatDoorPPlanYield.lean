/- Layer plan: a plan loaded whole, in a region that draws its order. -/
import Derived.OrdersHeld
import Derived.Test.YtjnokhaojpijhaaGreatDoorPar
import Derived.Test.YtjnokhaojpijhaaGreatDoorPac
namespace Go.Proofs.YtjnokhaojpijhaaGreatDoor
open Go.RowKit
theorem planInfoY : (Tryz.prog.info? 30).map (·.size) = some 14 := by kernel_rfl
theorem yields_plan {ops : Array Oper} {S : World → Prop} {op : Oper} {q : Act} {a b c d e f g h n : Int} {ob : Value} {s : Nat} {rg pg pk : Value} (hw : Region.wanted op (yielded ops q.tmps) = true) (x : Operand) (ho : op.op = .load 30 x)
    (B : Nat) (hx : q.eval x = .pointer (some ⟨B, 0, none⟩)) (hS : ∀ w, S w → Bp 30 w B a b c d e f g h n ob s rg pg pk) : YieldsIf Tryz.prog ops S op (planV a b c d e f g h n ob s rg pg pk) q :=
  .inl ⟨hw, fun w hw' => by
    unfold execOp
    simp only [ho, hx, Instr.loadAt, Instr.sureAddr, Sem.run_bind, Sem.run_pure, Result.andThen_ok, run_loadVar_row w B 30 30 (planC a b c d e f g h n ob s rg pg pk) (0, 0) _ (hS w hw').blk Tryz.underlying30 rfl planInfoY]⟩
end Go.Proofs.YtjnokhaojpijhaaGreatDoor
