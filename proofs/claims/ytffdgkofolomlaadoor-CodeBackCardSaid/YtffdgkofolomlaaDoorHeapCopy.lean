/- Layer heap: copied, Put, Alloc. -/
import Derived.Test.YtffdgkofolomlaaDoorHeapSame
import Derived.Test.YtffdgkofolomlaaDoorOwnGrid
import Derived.Lib.SliceRun
namespace Go.Proofs.YtffdgkofolomlaaDoor
open Go.RowKit

theorem infoInt : (Tryd.prog.info? 3).map (fun i => (i.zero, i.size, i.bytes)) = some (some (.int .i64 0), 1, 8) := by kernel_rfl

/-- a boxed parameter and a boxed result, at once -/
theorem box3 (w : World) (x y p q : Value) (t : TypeId) : ∃ w1, (w.alloc (.cells #[x, y] t)).alloc (.cells #[p, q] t) = w1 ∧ Below w.heap.size w w1 ∧ w1.heap.size = w.heap.size + 2 ∧ w1.cell? ⟨w.heap.size, 0, none⟩ = some x ∧ w1.cell? ⟨w.heap.size, 1, none⟩ = some y ∧
    w1.cell? ⟨w.heap.size + 1, 0, none⟩ = some p ∧ w1.cell? ⟨w.heap.size + 1, 1, none⟩ = some q ∧ w1.frozen? ⟨w.heap.size + 1, 0, none⟩ = false ∧ w1.frozen? ⟨w.heap.size + 1, 1, none⟩ = false := by
  obtain ⟨w0, e0, hB, hlt, _, c0, c1⟩ := box1 w x y t
  have hs0 : w0.heap.size = w.heap.size + 1 := by rw [← e0]; simp
  obtain ⟨w1, e1, hB1, hlt1, _, d0, d1⟩ := box1 w0 p q t
  have hs1 : w1.heap.size = w.heap.size + 2 := by rw [← e1]; simp [hs0]
  rw [hs0] at d0 d1
  have f : ∀ j, w1.frozen? ⟨w.heap.size + 1, j, none⟩ = false := fun j => by
    rw [← e1, ← hs0]
    exact frozen_of_row _ _ j #[p, q] t (heap_alloc_new w0 _)
  exact ⟨w1, by rw [e0, e1], bcall hB hB1, hs1, ((bcell hB1).1 _ 0 hlt).trans c0, ((bcell hB1).1 _ 1 hlt).trans c1, d0, d1, f 0, f 1⟩

end Go.Proofs.YtffdgkofolomlaaDoor
