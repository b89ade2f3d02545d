/- Layer heap: Right, Same. -/
import Derived.Test.YtffdgkofolomlaaDoorHeapScal
namespace Go.Proofs.YtffdgkofolomlaaDoor
open Go.RowKit

/-- a boxed parameter, at once -/
theorem box1 (w : World) (x y : Value) (t : TypeId) : ∃ w1, w.alloc (.cells #[x, y] t) = w1 ∧ Below w.heap.size w w1 ∧ w.heap.size < w1.heap.size ∧ (∀ b, b < w.heap.size → b < w1.heap.size) ∧ w1.cell? ⟨w.heap.size, 0, none⟩ = some x ∧ w1.cell? ⟨w.heap.size, 1, none⟩ = some y := by
  obtain ⟨a, b, c, d⟩ := box2 (Below.refl (w.alloc (.cells #[x, y] t)).heap.size (w.alloc (.cells #[x, y] t)))
  exact ⟨_, rfl, a, b, fun _ h => by omega, c, d⟩
theorem right_false {n : Int} {ls : Rws} (h : ¬ (1 ≤ n ∧ n ≤ 4 ∧ ls.length ≤ 64)) : rightF n ls = false := by
  unfold rightF; rw [decide_eq_false h]; rfl
theorem all_snoc {α : Type} (p : α → Bool) (l : List α) (k : Nat) (h : k < l.length) : (l.take (k + 1)).all p = ((l.take k).all p && p l[k]) := by
  rw [List.take_succ_eq_append_getElem h, List.all_append]; simp
theorem all_false {α : Type} (p : α → Bool) (l : List α) (k : Nat) (h : k < l.length) (hp : p l[k] = false) : l.all p = false := by
  rw [List.all_eq_false]
  exact ⟨l[k], List.getElem_mem h, by simp [hp]⟩
theorem right_row_false {n : Int} {ls : Rws} (k : Nat) (h : k < ls.length) (hp : rowOk n ls.length ls[k] = false) : rightF n ls = false := by
  unfold rightF; rw [all_false _ _ k h hp, Bool.and_false]

end Go.Proofs.YtffdgkofolomlaaDoor
