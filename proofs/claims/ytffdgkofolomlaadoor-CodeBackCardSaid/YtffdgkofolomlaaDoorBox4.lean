/- A struct of four values in a box: its block known whole. -/
import Derived.Test.YtffdgkofolomlaaDoorCore
import Derived.Lib.SmallJoins
namespace Go.Proofs.YtffdgkofolomlaaDoor
open Go.RowKit Go.Joins

/-- block B has these four -/
structure B4 (t : TypeId) (w : World) (B : Nat) (x y z u : Value) : Prop where
  blk : w.heap[B]? = some (.cells #[x, y, z, u] t)
section
variable {t : TypeId} {w w' : World} {B : Nat} {x y z u : Value}
theorem B4.lt (h : B4 t w B x y z u) : B < w.heap.size := (Array.getElem?_eq_some_iff.1 h.blk).1
theorem B4.below (h : B4 t w B x y z u) (hb : Below w.heap.size w w') : B4 t w' B x y z u := ⟨(hb.block B h.lt).trans h.blk⟩
theorem B4.all (h : B4 t w B x y z u) : w.cell? ⟨B, 0, none⟩ = some x ∧ w.cell? ⟨B, 1, none⟩ = some y ∧ w.cell? ⟨B, 2, none⟩ = some z ∧ w.cell? ⟨B, 3, none⟩ = some u :=
  ⟨cell_of_block h.blk 0, cell_of_block h.blk 1, cell_of_block h.blk 2, cell_of_block h.blk 3⟩
theorem B4.free (h : B4 t w B x y z u) : w.frozen? ⟨B, 0, none⟩ = false ∧ w.frozen? ⟨B, 1, none⟩ = false ∧ w.frozen? ⟨B, 2, none⟩ = false ∧ w.frozen? ⟨B, 3, none⟩ = false :=
  ⟨unfrozen_of_block h.blk 0, unfrozen_of_block h.blk 1, unfrozen_of_block h.blk 2, unfrozen_of_block h.blk 3⟩
theorem B4.drew (h : B4 t w B x y z u) : B4 t w.drew B x y z u := ⟨h.blk⟩
theorem B4.other (h : B4 t w B x y z u) {g o : Nat} (v : Value) (hne : B ≠ g) : B4 t (w.setCell ⟨g, o, none⟩ v) B x y z u := ⟨(Below.heap_setCell w ⟨g, o, none⟩ v B hne).trans h.blk⟩
end
theorem b4_new (w : World) (x y z u : Value) (t : TypeId) : ∃ w1, w.alloc (.cells #[x, y, z, u] t) = w1 ∧ Below w.heap.size w w1 ∧ w1.heap.size = w.heap.size + 1 ∧ B4 t w1 w.heap.size x y z u :=
  ⟨_, rfl, (Below.refl _ _).alloc (Nat.le_refl _) _, by simp, ⟨heap_alloc_new w _⟩⟩
theorem b4_two (w : World) (x y z u : Value) (t : TypeId) (x' y' z' u' : Value) (t' : TypeId) : ∃ w1, (w.alloc (.cells #[x, y, z, u] t)).alloc (.cells #[x', y', z', u'] t') = w1 ∧ Below w.heap.size w w1 ∧ w1.heap.size = w.heap.size + 2 ∧ B4 t w1 w.heap.size x y z u ∧ B4 t' w1 (w.heap.size + 1) x' y' z' u' := by
  obtain ⟨w0, e0, hB, hs0, h0⟩ := b4_new w x y z u t
  obtain ⟨w1, e1, hB1, hs1, h1⟩ := b4_new w0 x' y' z' u' t'
  rw [hs0] at h1
  exact ⟨w1, by rw [e0, e1], bcall hB hB1, by omega, h0.below hB1, h1⟩
end Go.Proofs.YtffdgkofolomlaaDoor
