/- Layer mem: what the laws share. -/
import Derived.Test.YtncflfpmdcjmcaaMemOpen
import Derived.Test.YtncflfpmdcjmcaaMemQ
import Derived.Test.YtncflfpmdcjmcaaQuietB
namespace Go.Proofs.Ytncflfpmdcjmcaa
open Go.RowKit

theorem cells_base {w : World} {A : Option Addr} {n c : Nat} {l : List Int} (h : Cells w (.slice A n c) l) (h0 : 0 < l.length) : ∃ b off, A = some ⟨b, off, none⟩ ∧ ∀ (i : Nat) (x : Int), l[i]? = some x → w.cell? ⟨b, off + i, none⟩ = some (.int .u64 x) := by
  obtain ⟨b, off, rfl, -, -⟩ := cells_at h h0
  refine ⟨b, off, rfl, fun i x hx => ?_⟩
  have hi := (List.getElem?_eq_some_iff.1 hx).1
  obtain ⟨b', off', e, -, h1⟩ := cells_at h hi
  injection e with e; injection e with e1 e2; subst e1; subst e2
  rw [List.getElem?_eq_getElem hi] at hx
  injection hx with hx
  rw [← hx]; exact h1
theorem Same_true {va vb : Value} (a : List Int) (w : World) (ha : Cells w va a) (hb : Cells w vb a) :
    Calls Try.prog 17 #[va, vb] w fun e w' => e = .returned (.bool true) ∧ Below w.heap.size w w' :=
  (Same_any va vb a a w ha hb).mono fun e w' ⟨h1, h2⟩ => ⟨by rw [h1, decide_eq_true rfl], h2⟩
end Go.Proofs.Ytncflfpmdcjmcaa
