/- Layer chain: the law's world at the start. -/
import Derived.Test.YtpffknlbffnafaaChainWorld
import Derived.Test.YtpffknlbffnafaaChainLayN
import Derived.Test.YtpffknlbffnafaaChainEx0
import Derived.Deep.Cut
namespace Go.Proofs.Ytpffknlbffnafaa.ch
open Go.RowKit

theorem infoMach : (Try.prog.info? 26).map (fun i => (i.zero, i.size, i.bytes)) = some (some (.agg #[.int .i64 0, .int .i64 0, .int .i64 0, .int .i64 0, .int .u64 0, .int .i64 0, .int .i64 0, .int .i64 0]), 8, 64) := by kernel_rfl
abbrev idl : Cm := ⟨0, 0, 0, 0, 0, 0, 0, 1⟩
def zeros4 : Array Value := #[.slice none 0 0, .slice none 0 0, .slice none 0 0, .int .i64 0]
theorem own_block {w w' : World} {base n size : Nat} {e : TypeId} {v : Value} {xs : List Value} (h : w.ownsRow base e size v n xs) (hk : ∀ y, v.ownBlock = some y → w'.heap[y]? = w.heap[y]?) : w'.ownsRow base e size v n xs := by
  refine ⟨h.1, ?_⟩
  rcases h.2 with h0 | ⟨g, cap, cur, rfl, hg, hh, hr⟩
  · exact .inl h0
  · exact .inr ⟨g, cap, cur, rfl, hg, (hk g rfl).trans hh, hr⟩
theorem own_type {w : World} {base n size : Nat} {e : TypeId} {v : Value} {xs : List Value} (h : w.ownsRow base e size v n xs) {y : Nat} (hy : v.ownBlock = some y) : ∃ cur fr, w.heap[y]? = some (.cells cur e fr) := by
  rcases h.2 with ⟨h0, _⟩ | ⟨g, cap, cur, rfl, hg, hh, hr⟩
  · rw [h0] at hy; simp [Value.ownBlock] at hy
  · simp only [Value.ownBlock, Option.some.injEq] at hy; subst hy; exact ⟨_, _, hh⟩
theorem own_apart {w : World} {b1 n1 s1 b2 n2 s2 : Nat} {e1 e2 : TypeId} {v1 v2 : Value} {x1 x2 : List Value} (h1 : w.ownsRow b1 e1 s1 v1 n1 x1) (h2 : w.ownsRow b2 e2 s2 v2 n2 x2) (he : e1 ≠ e2) {x y : Nat} (hx : v1.ownBlock = some x) (hy : v2.ownBlock = some y) : x ≠ y := by
  obtain ⟨c1, f1, g1⟩ := own_type h1 hx
  obtain ⟨c2, f2, g2⟩ := own_type h2 hy
  intro e
  subst e
  rw [g1] at g2
  injection g2 with g2
  injection g2 with _ g2 _
  exact he g2
structure StAt (w : World) (S b kT kH : Nat) (m : List Int) (vM vT vH : Value) (wr : World) : Prop where
  blk : wr.heap[S]? = some (.cells (wcs vM vT vH 0) 49)
  thr : wr.ownsRow b 26 8 vT kT ((List.replicate kT idl).flatMap mc)
  has : wr.ownsRow b 3 1 vH kH ((List.replicate kH 0).flatMap nc)
  res : wr.heap[w.heap.size]? = some (.cells zeros4 49)
  mem : Cells wr vM m
  below : Below w.heap.size w wr
  lt : w.heap.size < S
  sb : S < b
  bs : b ≤ wr.heap.size
  neM : ∀ y, vM.ownBlock = some y → y ≠ S ∧ y ≠ w.heap.size ∧ y < b
section
variable {w wr w' w6 : World} {S b kT kH : Nat} {m : List Int} {vM vT vH v' : Value} {o : Obj}
theorem StAt.ltS (h : StAt w S b kT kH m vM vT vH wr) : S < wr.heap.size := (Array.getElem?_eq_some_iff.1 h.blk).1
theorem StAt.keep (h : StAt w S b kT kH m vM vT vH wr) (hb : Below wr.heap.size wr w') : StAt w S b kT kH m vM vT vH w' :=
  ⟨(hb.block S h.ltS).trans h.blk, own_below h.thr hb, own_below h.has hb, (hb.block _ (Nat.lt_trans h.lt h.ltS)).trans h.res, h.mem.below hb, bcall h.below hb, h.lt, h.sb, Nat.le_trans h.bs hb.size, h.neM⟩
theorem StAt.cell (h : StAt w S b kT kH m vM vT vH wr) (i : Nat) : wr.cell? ⟨S, i, none⟩ = (wcs vM vT vH 0)[i]? := Joins.cell_of_block h.blk i
theorem StAt.unf (h : StAt w S b kT kH m vM vT vH wr) (i : Nat) : wr.frozen? ⟨S, i, none⟩ = false := Joins.unfrozen_of_block h.blk i
theorem StAt.rcell (h : StAt w S b kT kH m vM vT vH wr) (i : Nat) : wr.cell? ⟨w.heap.size, i, none⟩ = zeros4[i]? := Joins.cell_of_block h.res i
theorem StAt.runf (h : StAt w S b kT kH m vM vT vH wr) (i : Nat) : wr.frozen? ⟨w.heap.size, i, none⟩ = false := Joins.unfrozen_of_block h.res i
/-- one machine more, in a row of the call's own -/
theorem StAt.nextT (h : StAt w S b kT kH m vM vT vH wr) (hown : w6.ownsRow b 26 8 v' (kT + 1) ((List.replicate kT idl).flatMap mc ++ mc idl)) (hg : (wr.alloc o).grownBy w6 vT.ownBlock) :
    StAt w S b (kT + 1) kH m vM v' vH (w6.setCell ⟨S, 1, none⟩ v') := by
  have h5 := h.keep (bal wr o)
  have hge := own_ge h.thr
  have hsb := h.sb
  have hlt := h.lt
  have hS6 : w6.heap[S]? = (wr.alloc o).heap[S]? := hg.block S h5.ltS (fun e => by have := hge S e.symm; omega)
  have hR6 : w6.heap[w.heap.size]? = (wr.alloc o).heap[w.heap.size]? := hg.block _ (Nat.lt_trans h.lt h5.ltS) (fun e => by have := hge _ e.symm; omega)
  have hH6 : w6.ownsRow b 3 1 vH kH ((List.replicate kH 0).flatMap nc) := own_block h5.has fun y hy => hg.block y (h5.has.lt y hy).2 (fun e => own_apart h5.thr h5.has (by decide) e.symm hy rfl)
  refine ⟨?_, ?_, ownsRow_setCell_below hH6 (a := ⟨S, 1, none⟩) hsb v', ?_, ?_, ?_, h.lt, h.sb, ?_, h.neM⟩
  · rw [Joins.block_setCell (hS6.trans h5.blk) v']; rfl
  · rw [List.replicate_succ', List.flatMap_append, List.flatMap_cons, List.flatMap_nil, List.append_nil]
    exact ownsRow_setCell_below hown (a := ⟨S, 1, none⟩) hsb v'
  · rw [Below.heap_setCell w6 ⟨S, 1, none⟩ v' _ (by simp only; omega), hR6]; exact h5.res
  · refine cells_block h5.mem (by simpa [World.setCell] using hg.size) fun _ y hy hl => ?_
    have hy' := h.neM y hy
    rw [Below.heap_setCell w6 ⟨S, 1, none⟩ v' _ (by simp only; omega)]
    exact hg.block y hl (fun e => by have := hge y e.symm; omega)
  · exact (h5.below.grown hg (by have := h5.ltS; omega) (fun y hy => by have := hge y hy; omega)).setCell (p := ⟨S, 1, none⟩) (by simp only; omega) v'
  · have := hg.size; have := h5.bs; simp [World.setCell]; omega
/-- one number more -/
theorem StAt.nextH (h : StAt w S b kT kH m vM vT vH wr) (hown : w6.ownsRow b 3 1 v' (kH + 1) ((List.replicate kH 0).flatMap nc ++ nc 0)) (hg : (wr.alloc o).grownBy w6 vH.ownBlock) :
    StAt w S b kT (kH + 1) m vM vT v' (w6.setCell ⟨S, 2, none⟩ v') := by
  have h5 := h.keep (bal wr o)
  have hge := own_ge h.has
  have hsb := h.sb
  have hlt := h.lt
  have hS6 : w6.heap[S]? = (wr.alloc o).heap[S]? := hg.block S h5.ltS (fun e => by have := hge S e.symm; omega)
  have hR6 : w6.heap[w.heap.size]? = (wr.alloc o).heap[w.heap.size]? := hg.block _ (Nat.lt_trans h.lt h5.ltS) (fun e => by have := hge _ e.symm; omega)
  have hT6 : w6.ownsRow b 26 8 vT kT ((List.replicate kT idl).flatMap mc) := own_block h5.thr fun y hy => hg.block y (h5.thr.lt y hy).2 (fun e => own_apart h5.thr h5.has (by decide) hy e.symm rfl)
  refine ⟨?_, ownsRow_setCell_below hT6 (a := ⟨S, 2, none⟩) hsb v', ?_, ?_, ?_, ?_, h.lt, h.sb, ?_, h.neM⟩
  · rw [Joins.block_setCell (hS6.trans h5.blk) v']; rfl
  · rw [List.replicate_succ', List.flatMap_append, List.flatMap_cons, List.flatMap_nil, List.append_nil]
    exact ownsRow_setCell_below hown (a := ⟨S, 2, none⟩) hsb v'
  · rw [Below.heap_setCell w6 ⟨S, 2, none⟩ v' _ (by simp only; omega), hR6]; exact h5.res
  · refine cells_block h5.mem (by simpa [World.setCell] using hg.size) fun _ y hy hl => ?_
    have hy' := h.neM y hy
    rw [Below.heap_setCell w6 ⟨S, 2, none⟩ v' _ (by simp only; omega)]
    exact hg.block y hl (fun e => by have := hge y e.symm; omega)
  · exact (h5.below.grown hg (by have := h5.ltS; omega) (fun y hy => by have := hge y hy; omega)).setCell (p := ⟨S, 2, none⟩) (by simp only; omega) v'
  · have := hg.size; have := h5.bs; simp [World.setCell]; omega
end
end Go.Proofs.Ytpffknlbffnafaa.ch
