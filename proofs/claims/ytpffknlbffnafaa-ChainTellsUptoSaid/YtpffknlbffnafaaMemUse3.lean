/- Layer mem: lists of deeds, cells at both ends. -/
import Derived.Test.YtpffknlbffnafaaMemUse2
namespace Go.Proofs.Ytpffknlbffnafaa
open Go.RowKit

theorem infoOp : (Try.prog.info? 68).map (fun i => (i.zero, i.size, i.bytes)) = some (some (.agg #[.int .i64 0, .int .i64 0, .int .u64 0, .int .u64 0]), 4, 32) := by kernel_rfl
theorem oc_one (o : Dd) : ∀ u ∈ oc o, u.oneCell' = true := by
  intro u hu
  simp only [oc, List.mem_cons, List.not_mem_nil, or_false] at hu
  rcases hu with rfl | rfl | rfl | rfl <;> rfl
/-- what is in the x-th place of two lists, one behind the other -/
theorem both_left (a b : List Int) (x : Nat) (h : x < a.length) (h' : x < (a ++ b).length) : (a ++ b)[x] = a[x] := List.getElem_append_left h
theorem both_right (a b : List Int) (x j : Nat) (h : x = a.length + j) (h' : x < (a ++ b).length) (hj : j < b.length) : (a ++ b)[x] = b[j] := by
  subst h
  rw [List.getElem_append_right (by omega)]
  congr 1
  omega
end Go.Proofs.Ytpffknlbffnafaa
