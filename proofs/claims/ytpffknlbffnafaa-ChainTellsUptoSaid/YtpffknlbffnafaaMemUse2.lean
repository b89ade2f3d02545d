/- Layer mem: what the laws share. -/
import Derived.Test.YtpffknlbffnafaaMemOpen
import Derived.Test.YtpffknlbffnafaaMemQ
import Derived.Test.YtpffknlbffnafaaQuietB
namespace Go.Proofs.Ytpffknlbffnafaa
open Go.RowKit

theorem cells_base {w : World} {A : Option Addr} {n c : Nat} {l : List Int} (h : Cells w (.slice A n c) l) (h0 : 0 < l.length) : ∃ b off, A = some ⟨b, off, none⟩ ∧ ∀ (i : Nat) (x : Int), l[i]? = some x → w.cell? ⟨b, off + i, none⟩ = some (.int .u64 x) := by
  obtain ⟨b, off, rfl, -, -⟩ := cells_at h h0
  refine ⟨b, off, rfl, fun i x hx => ?_⟩
  have hi := (List.getElem?_eq_some_iff.1 hx).1
  obtain ⟨b', off', e, -, h1⟩ := cells_at h hi
  injection e with e; injection e with e1 e2; subst e1; subst e2
  rw [List.getElem?_eq_getElem hi] at hx
  injection hx with hx
  rw [← hx]; exact h1
end Go.Proofs.Ytpffknlbffnafaa
