/- Layer chain: the law's world as a block. -/
import Derived.Test.YtpffknlbffnafaaChainRun
import Derived.Test.YtpffknlbffnafaaChainW
namespace Go.Proofs.Ytpffknlbffnafaa.ch
open Go.RowKit

/-- a machine, as cells -/
def mc (d : Cm) : List Value := [.int .i64 d.kind, .int .i64 d.pc, .int .i64 d.head, .int .i64 d.next, .int .u64 d.h, .int .i64 d.x, .int .i64 d.y, .int .i64 d.out]
theorem mc_len (d : Cm) : (mc d).length = 8 := rfl
/-- a node, as cells -/
def nc (x : Nat) : List Value := [.int .i64 (x : Int)]
theorem nc_len (x : Nat) : (nc x).length = 1 := rfl
/-- the cells of the law's world -/
def wcs (vM vT vH : Value) (sw : Nat) : Array Value := #[vM, vT, vH, .int .i64 (sw : Int)]
structure Wat (w : World) (B g gh : Nat) (ct cg : Nat) (d : Cw) (vM : Value) : Prop where
  blk : w.heap[B]? = some (.cells (wcs vM (.slice (some ⟨g, 0, none⟩) 5 ct) (.slice (some ⟨gh, 0, none⟩) 5 cg) d.swap) 49)
  mem : Cells w vM d.m
  thr : w.ownsRow 0 26 8 (.slice (some ⟨g, 0, none⟩) 5 ct) 5 (d.who.flatMap mc)
  has : w.ownsRow 0 3 1 (.slice (some ⟨gh, 0, none⟩) 5 cg) 5 (d.has.flatMap nc)
  neM : ∀ x, vM.ownBlock = some x → x ≠ B ∧ x ≠ g ∧ x ≠ gh
  neT : g ≠ B
  neH : gh ≠ B
  neG : g ≠ gh
  th5 : d.who.length = 5
  ha5 : d.has.length = 5
/-- all but three blocks are as they were -/
structure Fr (w : World) (B g gh : Nat) (w' : World) : Prop where
  os : w'.os = w.os
  tape : w'.tape = w.tape
  output : w'.output = w.output
  size : w.heap.size ≤ w'.heap.size
  block : ∀ k, k < w.heap.size → k ≠ B → k ≠ g → k ≠ gh → w'.heap[k]? = w.heap[k]?
section
variable {w w' w'' : World} {B g gh ct cg : Nat} {d : Cw} {vM : Value}
theorem Fr.refl : Fr w B g gh w := ⟨rfl, rfl, rfl, Nat.le_refl _, fun _ _ _ _ _ => rfl⟩
theorem Fr.trans (h : Fr w B g gh w') (k : Fr w' B g gh w'') : Fr w B g gh w'' := ⟨k.os.trans h.os, k.tape.trans h.tape, k.output.trans h.output, Nat.le_trans h.size k.size, fun i hi h1 h2 h3 => (k.block i (Nat.lt_of_lt_of_le hi h.size) h1 h2 h3).trans (h.block i hi h1 h2 h3)⟩
theorem Fr.of_below (h : Below w.heap.size w w') : Fr w B g gh w' := ⟨h.os, h.tape, h.output, h.size, fun k hk _ _ _ => h.block k hk⟩
theorem Fr.setB (h : Fr w B g gh w') (i : Nat) (x : Value) : Fr w B g gh (w'.setCell ⟨B, i, none⟩ x) := ⟨h.os, h.tape, h.output, by simpa [World.setCell] using h.size, fun k hk h1 h2 h3 => (Below.heap_setCell w' ⟨B, i, none⟩ x k h1).trans (h.block k hk h1 h2 h3)⟩
theorem Fr.setG (h : Fr w B g gh w') (i : Nat) (x : Value) : Fr w B g gh (w'.setCell ⟨g, i, none⟩ x) := ⟨h.os, h.tape, h.output, by simpa [World.setCell] using h.size, fun k hk h1 h2 h3 => (Below.heap_setCell w' ⟨g, i, none⟩ x k h2).trans (h.block k hk h1 h2 h3)⟩
theorem Fr.setH (h : Fr w B g gh w') (i : Nat) (x : Value) : Fr w B g gh (w'.setCell ⟨gh, i, none⟩ x) := ⟨h.os, h.tape, h.output, by simpa [World.setCell] using h.size, fun k hk h1 h2 h3 => (Below.heap_setCell w' ⟨gh, i, none⟩ x k h3).trans (h.block k hk h1 h2 h3)⟩
theorem Fr.drew (h : Fr w B g gh w') : Fr w B g gh w'.drew := ⟨h.os, h.tape, h.output, h.size, h.block⟩
theorem Fr.drewN (h : Fr w B g gh w') (n : Nat) : Fr w B g gh (w'.drewN n) := ⟨h.os, h.tape, h.output, h.size, h.block⟩
theorem Fr.undrew (h : Fr w.drew B g gh w') : Fr w B g gh w' := ⟨h.os, h.tape, h.output, h.size, h.block⟩
theorem Fr.below {a : World} {n : Nat} (h : Below n a w) (k : Fr w B g gh w') (hn : n ≤ w.heap.size) (hB : n ≤ B) (hg : n ≤ g) (hh : n ≤ gh) : Below n a w' :=
  ⟨k.os.trans h.os, k.tape.trans h.tape, k.output.trans h.output, Nat.le_trans h.size k.size, fun i hi => (k.block i (by omega) (by omega) (by omega) (by omega)).trans (h.block i hi)⟩
theorem Wat.ltB (h : Wat w B g gh ct cg d vM) : B < w.heap.size := (Array.getElem?_eq_some_iff.1 h.blk).1
theorem Wat.ltG (h : Wat w B g gh ct cg d vM) : g < w.heap.size := (h.thr.lt g rfl).2
theorem Wat.ltH (h : Wat w B g gh ct cg d vM) : gh < w.heap.size := (h.has.lt gh rfl).2
theorem Wat.cell (h : Wat w B g gh ct cg d vM) (i : Nat) : w.cell? ⟨B, i, none⟩ = (wcs vM (.slice (some ⟨g, 0, none⟩) 5 ct) (.slice (some ⟨gh, 0, none⟩) 5 cg) d.swap)[i]? := Joins.cell_of_block h.blk i
theorem Wat.unf (h : Wat w B g gh ct cg d vM) (i : Nat) : w.frozen? ⟨B, i, none⟩ = false := Joins.unfrozen_of_block h.blk i
theorem Wat.below (h : Wat w B g gh ct cg d vM) (hb : Below w.heap.size w w') : Wat w' B g gh ct cg d vM :=
  ⟨(hb.block B h.ltB).trans h.blk, h.mem.below hb, own_below h.thr hb, own_below h.has hb, h.neM, h.neT, h.neH, h.neG, h.th5, h.ha5⟩
theorem Wat.drew (h : Wat w B g gh ct cg d vM) : Wat w.drew B g gh ct cg d vM := ⟨h.blk, h.mem, World.ownsRow.drew h.thr, World.ownsRow.drew h.has, h.neM, h.neT, h.neH, h.neG, h.th5, h.ha5⟩
theorem Wat.drewN (h : Wat w B g gh ct cg d vM) (n : Nat) : Wat (w.drewN n) B g gh ct cg d vM := ⟨h.blk, h.mem, h.thr, h.has, h.neM, h.neT, h.neH, h.neG, h.th5, h.ha5⟩
theorem cells_far {v : Value} {m : List Int} {a : Nat} (h : Cells w v m) (i : Nat) (x : Value) (hne : ∀ y, v.ownBlock = some y → y ≠ a) : Cells (w.setCell ⟨a, i, none⟩ x) v m :=
  cells_block h (by simp [World.setCell]) fun _ y hy _ => Below.heap_setCell w ⟨a, i, none⟩ x y (hne y hy)
theorem ob_ne {g B : Nat} {n c : Nat} (h : g ≠ B) : (Value.slice (some ⟨g, 0, none⟩) n c).ownBlock ≠ some B := by simp only [Value.ownBlock, ne_eq, Option.some.injEq]; exact h
theorem Wat.putM (h : Wat w B g gh ct cg d vM) {vM' : Value} {m' : List Int} (hv : Cells w vM' m') (hne : ∀ x, vM'.ownBlock = some x → x ≠ B ∧ x ≠ g ∧ x ≠ gh) : Wat (w.setCell ⟨B, 0, none⟩ vM') B g gh ct cg { d with m := m' } vM' :=
  ⟨by rw [Joins.block_setCell h.blk vM']; rfl, cells_far hv 0 _ (fun y hy => (hne y hy).1), ownsRow_setCell_other h.thr (ob_ne h.neT) _, ownsRow_setCell_other h.has (ob_ne h.neH) _, hne, h.neT, h.neH, h.neG, h.th5, h.ha5⟩
theorem Wat.putS (h : Wat w B g gh ct cg d vM) (s : Nat) : Wat (w.setCell ⟨B, 3, none⟩ (.int .i64 (s : Int))) B g gh ct cg { d with swap := s } vM :=
  ⟨by rw [Joins.block_setCell h.blk]; rfl, cells_far h.mem 3 _ (fun y hy => (h.neM y hy).1), ownsRow_setCell_other h.thr (ob_ne h.neT) _, ownsRow_setCell_other h.has (ob_ne h.neH) _, h.neM, h.neT, h.neH, h.neG, h.th5, h.ha5⟩
theorem ha_set : ∀ (l : List Nat) (n : Nat), l.length = 5 → n < 5 → ∀ x : Nat, (l.flatMap nc).set n (.int .i64 (x : Int)) = (l.set n x).flatMap nc
  | [_, _, _, _, _], 0, _, _ => fun _ => rfl
  | [_, _, _, _, _], 1, _, _ => fun _ => rfl
  | [_, _, _, _, _], 2, _, _ => fun _ => rfl
  | [_, _, _, _, _], 3, _, _ => fun _ => rfl
  | [_, _, _, _, _], 4, _, _ => fun _ => rfl
theorem Wat.putH (h : Wat w B g gh ct cg d vM) {n : Nat} (hn : n < 5) (x : Nat) : Wat (w.setCell ⟨gh, n, none⟩ (.int .i64 (x : Int))) B g gh ct cg { d with has := d.has.set n x } vM := by
  have h0 := (h.has.stored n (.int .i64 (x : Int))).1
  rw [ha_set d.has n h.ha5 hn] at h0
  exact ⟨(Below.heap_setCell w ⟨gh, n, none⟩ _ B (Ne.symm h.neH)).trans h.blk, cells_far h.mem n _ (fun y hy => (h.neM y hy).2.2), ownsRow_setCell_other h.thr (ob_ne h.neG) _, h0, h.neM, h.neT, h.neH, h.neG, h.th5, by simp [h.ha5]⟩
end
/-- a machine, stored anew -/
def setT (w : World) (g j : Nat) (k p s c b t x u : Int) : World := (((((((w.setCell ⟨g, j, none⟩ (.int .i64 k)).setCell ⟨g, j + 1, none⟩ (.int .i64 p)).setCell ⟨g, j + 2, none⟩ (.int .i64 s)).setCell ⟨g, j + 3, none⟩ (.int .i64 c)).setCell ⟨g, j + 4, none⟩ (.int .u64 b)).setCell ⟨g, j + 5, none⟩ (.int .i64 t)).setCell ⟨g, j + 6, none⟩ (.int .i64 x)).setCell ⟨g, j + 7, none⟩ (.int .i64 u)
theorem th_set : ∀ (th : List Cm) (n : Nat), th.length = 5 → n < 5 → ∀ k p s c b t x u : Int, ((((((((th.flatMap mc).set (n * 8) (.int .i64 k)).set (n * 8 + 1) (.int .i64 p)).set (n * 8 + 2) (.int .i64 s)).set (n * 8 + 3) (.int .i64 c)).set (n * 8 + 4) (.int .u64 b)).set (n * 8 + 5) (.int .i64 t)).set (n * 8 + 6) (.int .i64 x)).set (n * 8 + 7) (.int .i64 u) = (th.set n ⟨k, p, s, c, b, t, x, u⟩).flatMap mc
  | [_, _, _, _, _], 0, _, _ => fun _ _ _ _ _ _ _ _ => rfl
  | [_, _, _, _, _], 1, _, _ => fun _ _ _ _ _ _ _ _ => rfl
  | [_, _, _, _, _], 2, _, _ => fun _ _ _ _ _ _ _ _ => rfl
  | [_, _, _, _, _], 3, _, _ => fun _ _ _ _ _ _ _ _ => rfl
  | [_, _, _, _, _], 4, _, _ => fun _ _ _ _ _ _ _ _ => rfl
section
variable {w w' : World} {B g gh ct cg : Nat} {d : Cw} {vM : Value}
theorem setT_far (j : Nat) (k p s c b t x u : Int) (i : Nat) (h : i ≠ g) : (setT w g j k p s c b t x u).heap[i]? = w.heap[i]? := by
  simp only [setT, World.setCell, Array.getElem?_modify]
  have h' : ¬ g = i := fun e => h e.symm
  simp [h']
theorem setT_size (j : Nat) (k p s c b t x u : Int) : (setT w g j k p s c b t x u).heap.size = w.heap.size := by simp [setT, World.setCell]
theorem Wat.putT (h : Wat w B g gh ct cg d vM) {n : Nat} (hn : n < 5) (k p s c b t x u : Int) : Wat (setT w g (n * 8) k p s c b t x u) B g gh ct cg { d with who := d.who.set n ⟨k, p, s, c, b, t, x, u⟩ } vM := by
  have h0 := (h.thr.stored (n * 8) (.int .i64 k)).1
  have h1 := (h0.stored (n * 8 + 1) (.int .i64 p)).1
  have h2 := (h1.stored (n * 8 + 2) (.int .i64 s)).1
  have h3 := (h2.stored (n * 8 + 3) (.int .i64 c)).1
  have h4 := (h3.stored (n * 8 + 4) (.int .u64 b)).1
  have h5 := (h4.stored (n * 8 + 5) (.int .i64 t)).1
  have h6 := (h5.stored (n * 8 + 6) (.int .i64 x)).1
  have h7 := (h6.stored (n * 8 + 7) (.int .i64 u)).1
  rw [th_set d.who n h.th5 hn] at h7
  have ho : (Value.slice (some ⟨gh, 0, none⟩) 5 cg).ownBlock ≠ some g := ob_ne (Ne.symm h.neG)
  have hh := ownsRow_setCell_other (a := ⟨g, n * 8 + 7, none⟩) (ownsRow_setCell_other (a := ⟨g, n * 8 + 6, none⟩) (ownsRow_setCell_other (a := ⟨g, n * 8 + 5, none⟩) (ownsRow_setCell_other (a := ⟨g, n * 8 + 4, none⟩) (ownsRow_setCell_other (a := ⟨g, n * 8 + 3, none⟩) (ownsRow_setCell_other (a := ⟨g, n * 8 + 2, none⟩) (ownsRow_setCell_other (a := ⟨g, n * 8 + 1, none⟩) (ownsRow_setCell_other (a := ⟨g, n * 8, none⟩) h.has ho (.int .i64 k)) ho (.int .i64 p)) ho (.int .i64 s)) ho (.int .i64 c)) ho (.int .u64 b)) ho (.int .i64 t)) ho (.int .i64 x)) ho (.int .i64 u)
  exact ⟨(setT_far _ _ _ _ _ _ _ _ _ B h.neT.symm).trans h.blk, cells_block h.mem (by rw [setT_size]; exact Nat.le_refl _) fun _ y hy _ => setT_far _ _ _ _ _ _ _ _ _ y (h.neM y hy).2.1, h7, hh, h.neM, h.neT, h.neH, h.neG, by simp [h.th5], h.ha5⟩
theorem Fr.setT {a : World} (h : Fr a B g gh w) (j : Nat) (k p s c b t x u : Int) : Fr a B g gh (setT w g j k p s c b t x u) := (((((((h.setG _ _).setG _ _).setG _ _).setG _ _).setG _ _).setG _ _).setG _ _).setG _ _
theorem th_cell (h : Wat w B g gh ct cg d vM) {n : Nat} {k p s c b t x u : Int} (e : d.who[n]? = some ⟨k, p, s, c, b, t, x, u⟩) :
    w.cell? ⟨g, n * 8, none⟩ = some (.int .i64 k) ∧ w.cell? ⟨g, n * 8 + 1, none⟩ = some (.int .i64 p) ∧ w.cell? ⟨g, n * 8 + 2, none⟩ = some (.int .i64 s) ∧ w.cell? ⟨g, n * 8 + 3, none⟩ = some (.int .i64 c) ∧
    w.cell? ⟨g, n * 8 + 4, none⟩ = some (.int .u64 b) ∧ w.cell? ⟨g, n * 8 + 5, none⟩ = some (.int .i64 t) ∧ w.cell? ⟨g, n * 8 + 6, none⟩ = some (.int .i64 x) ∧ w.cell? ⟨g, n * 8 + 7, none⟩ = some (.int .i64 u) := by
  have hg : ∀ j y, (mc ⟨k, p, s, c, b, t, x, u⟩)[j]? = some y → w.cell? ⟨g, n * 8 + j, none⟩ = some y := fun j y hy => by
    have := h.thr.cells (g := g) rfl (n * 8 + j) y (flatMap_get mc_len d.who n _ e j y hy)
    rw [add_none, Nat.zero_add] at this
    exact this
  exact ⟨hg 0 _ rfl, hg 1 _ rfl, hg 2 _ rfl, hg 3 _ rfl, hg 4 _ rfl, hg 5 _ rfl, hg 6 _ rfl, hg 7 _ rfl⟩
theorem th_unf (h : Wat w B g gh ct cg d vM) (j : Nat) : w.frozen? ⟨g, j, none⟩ = false := h.thr.frozenAt j
theorem ha_cell (h : Wat w B g gh ct cg d vM) {n x : Nat} (e : d.has[n]? = some x) : w.cell? ⟨gh, n, none⟩ = some (.int .i64 (x : Int)) := by
  have := h.has.cells (g := gh) rfl (n * 1 + 0) _ (flatMap_get nc_len d.has n _ e 0 (.int .i64 (x : Int)) rfl)
  rw [add_none, Nat.zero_add, Nat.mul_one, Nat.add_zero] at this
  exact this
theorem ha_unf (h : Wat w B g gh ct cg d vM) (j : Nat) : w.frozen? ⟨gh, j, none⟩ = false := h.has.frozenAt j
end
/-- what a step of it leaves -/
def WPost (w : World) (B g gh ct cg : Nat) (d' : Cw) (e : Ending) (w' : World) : Prop := ∃ vM, e = .returned (.tuple #[]) ∧ Wat w' B g gh ct cg d' vM ∧ Fr w B g gh w'
end Go.Proofs.Ytpffknlbffnafaa.ch
