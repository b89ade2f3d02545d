/- Layer heap: Put. -/
import Derived.Test.YtffdgkofolomlaaDoorHeapCopy
namespace Go.Proofs.YtffdgkofolomlaaDoor
open Go.RowKit

theorem keepc {a b : World} {p : Addr} {v : Value} (hb : Below a.heap.size a b) (h : a.cell? p = some v) : b.cell? p = some v := by
  rw [hb.cell (World.block_lt_of_cell? _ _ h)]; exact h
theorem keepf {a b : World} {p : Addr} {v : Value} (hb : Below a.heap.size a b) (h : a.cell? p = some v) (hf : a.frozen? p = false) : b.frozen? p = false := by
  rw [hb.frozen (World.block_lt_of_cell? _ _ h)]; exact hf
theorem putOk_slot {ls : Rws} {o s x : Int} (h : hasS ls o s = false) : putOk ls o s x = false ∧ putF ls o s x = ls := by
  have : putOk ls o s x = false := by unfold putOk; rw [h]; rfl
  exact ⟨this, by unfold putF; rw [this]; rfl⟩
theorem putOk_may {ls : Rws} {o s x : Int} (h : mayF ls x = false) : putOk ls o s x = false ∧ putF ls o s x = ls := by
  have : putOk ls o s x = false := by unfold putOk; rw [h]; simp
  exact ⟨this, by unfold putF; rw [this]; rfl⟩
theorem putOk_both {ls : Rws} {o s x : Int} (h : hasS ls o s = true) (h2 : mayF ls x = true) : putOk ls o s x = true ∧ putF ls o s x = setF ls o s x := by
  have : putOk ls o s x = true := by unfold putOk; rw [h, h2]; rfl
  exact ⟨this, by unfold putF; rw [this]; rfl⟩

end Go.Proofs.YtffdgkofolomlaaDoor
