/- Layer heap: what is asked of a heap, nothing written. -/
import Derived.Test.YtffdgkofolomlaaDoorHeapP
import Derived.Test.YtffdgkofolomlaaDoorGrid
import Derived.Deep.QuietTactic
import Derived.BigQuiet
namespace Go.Proofs.YtffdgkofolomlaaDoor
open Go.RowKit

abbrev hv (n : Int) (v : Value) : Value := .agg #[.int .i64 n, v]
theorem bal (w : World) (o : Obj) : Below w.heap.size w (w.alloc o) := (Below.refl _ _).alloc (Nat.le_refl _) o

theorem ret_gb {a b : Int} {c d : Bool} (h : a = b) (k : c = d) : Ending.returned (.tuple #[.int .i64 a, .bool c]) = .returned (.tuple #[.int .i64 b, .bool d]) := by rw [h, k]

/-- a boxed parameter, behind a call -/
theorem box2 {w w2 : World} {x y : Value} {t : TypeId} (hb : Below (w.alloc (.cells #[x, y] t)).heap.size (w.alloc (.cells #[x, y] t)) w2) :
    Below w.heap.size w w2 ∧ w.heap.size < w2.heap.size ∧ w2.cell? ⟨w.heap.size, 0, none⟩ = some x ∧ w2.cell? ⟨w.heap.size, 1, none⟩ = some y := by
  have h0 := row_new w [x, y] t 0 x rfl
  have h1 := row_new w [x, y] t 1 y rfl
  rw [add_none] at h0 h1
  have hs : w.heap.size + 1 ≤ w2.heap.size := by simpa using hb.size
  exact ⟨btr (bal _ _) hb (by simp), by omega, ((bcell hb).1 _ _ (by simp)).trans h0, ((bcell hb).1 _ _ (by simp)).trans h1⟩

end Go.Proofs.YtffdgkofolomlaaDoor
