import Derived.Test.YthjdjkcdlknhbaaDequeEx
import Derived.Test.YthjdjkcdlknhbaaDequeQ
import Derived.Test.YthjdjkcdlknhbaaDequeWorlds
import Derived.Test.YthjdjkcdlknhbaaDequeBag2
import Derived.Deep.Cut
/- Layer deque: the law's world as a block. -/
namespace Go.Proofs.Ythjdjkcdlknhbaa
open Go.RowKit

/-- a machine, as cells -/
def mc (d : Mc) : List Value := [.int .i64 d.kind, .int .i64 d.pc, .int .i64 d.base, .int .i64 d.cap, .int .u64 d.b, .int .u64 d.t, .int .i64 d.x, .int .i64 d.out]
theorem mc_len (d : Mc) : (mc d).length = 8 := rfl
/-- the cells of the law's world -/
def wcs (cap : Int) (o : Mc) (nx : Int) (vM vT vP vG : Value) : Array Value :=
  #[vM, .int .i64 cap, .int .i64 o.kind, .int .i64 o.pc, .int .i64 o.base, .int .i64 o.cap, .int .u64 o.b, .int .u64 o.t, .int .i64 o.x, .int .i64 o.out, vT, vP, vG, .int .i64 nx]
structure Wat (w : World) (B g : Nat) (ct : Nat) (cap : Int) (d : Dw) (vM vP vG : Value) : Prop where
  blk : w.heap[B]? = some (.cells (wcs cap d.owner d.next vM (.slice (some ⟨g, 0, none⟩) 3 ct) vP vG) 47)
  mem : Cells w vM d.m
  thr : w.ownsRow 0 26 8 (.slice (some ⟨g, 0, none⟩) 3 ct) 3 (d.th.flatMap mc)
  pus : Ints w vP d.pushed
  got : Ints w vG d.got
  neM : ∀ x, vM.ownBlock = some x → x ≠ B ∧ x ≠ g
  neP : ∀ x, vP.ownBlock = some x → x ≠ B ∧ x ≠ g
  neG : ∀ x, vG.ownBlock = some x → x ≠ B ∧ x ≠ g
  neT : g ≠ B
  th3 : d.th.length = 3
/-- all but two blocks are as they were -/
structure Fr (w : World) (B g : Nat) (w' : World) : Prop where
  os : w'.os = w.os
  tape : w'.tape = w.tape
  output : w'.output = w.output
  size : w.heap.size ≤ w'.heap.size
  block : ∀ k, k < w.heap.size → k ≠ B → k ≠ g → w'.heap[k]? = w.heap[k]?
section
variable {w w' w'' : World} {B g ct : Nat} {cap : Int} {d : Dw} {vM vP vG : Value}
theorem Fr.refl : Fr w B g w := ⟨rfl, rfl, rfl, Nat.le_refl _, fun _ _ _ _ => rfl⟩
theorem Fr.trans (h : Fr w B g w') (k : Fr w' B g w'') : Fr w B g w'' := ⟨k.os.trans h.os, k.tape.trans h.tape, k.output.trans h.output, Nat.le_trans h.size k.size, fun i hi h1 h2 => (k.block i (Nat.lt_of_lt_of_le hi h.size) h1 h2).trans (h.block i hi h1 h2)⟩
theorem Fr.of_below (h : Below w.heap.size w w') : Fr w B g w' := ⟨h.os, h.tape, h.output, h.size, fun k hk _ _ => h.block k hk⟩
theorem Fr.setB (h : Fr w B g w') (i : Nat) (x : Value) : Fr w B g (w'.setCell ⟨B, i, none⟩ x) := ⟨h.os, h.tape, h.output, by simpa [World.setCell] using h.size, fun k hk h1 h2 => (Below.heap_setCell w' ⟨B, i, none⟩ x k h1).trans (h.block k hk h1 h2)⟩
theorem Fr.setG (h : Fr w B g w') (i : Nat) (x : Value) : Fr w B g (w'.setCell ⟨g, i, none⟩ x) := ⟨h.os, h.tape, h.output, by simpa [World.setCell] using h.size, fun k hk h1 h2 => (Below.heap_setCell w' ⟨g, i, none⟩ x k h2).trans (h.block k hk h1 h2)⟩
theorem Fr.drew (h : Fr w B g w') : Fr w B g w'.drew := ⟨h.os, h.tape, h.output, h.size, h.block⟩
theorem Fr.drewN (h : Fr w B g w') (n : Nat) : Fr w B g (w'.drewN n) := ⟨h.os, h.tape, h.output, h.size, h.block⟩
theorem Fr.undrew (h : Fr w.drew B g w') : Fr w B g w' := ⟨h.os, h.tape, h.output, h.size, h.block⟩
theorem Fr.below {a : World} {n : Nat} (h : Below n a w) (k : Fr w B g w') (hn : n ≤ w.heap.size) (hB : n ≤ B) (hg : n ≤ g) : Below n a w' :=
  ⟨k.os.trans h.os, k.tape.trans h.tape, k.output.trans h.output, Nat.le_trans h.size k.size, fun i hi => (k.block i (by omega) (by omega) (by omega)).trans (h.block i hi)⟩
theorem Wat.ltB (h : Wat w B g ct cap d vM vP vG) : B < w.heap.size := (Array.getElem?_eq_some_iff.1 h.blk).1
theorem Wat.ltG (h : Wat w B g ct cap d vM vP vG) : g < w.heap.size := (h.thr.lt g rfl).2
theorem Wat.cell (h : Wat w B g ct cap d vM vP vG) (i : Nat) : w.cell? ⟨B, i, none⟩ = (wcs cap d.owner d.next vM (.slice (some ⟨g, 0, none⟩) 3 ct) vP vG)[i]? := Joins.cell_of_block h.blk i
theorem Wat.unf (h : Wat w B g ct cap d vM vP vG) (i : Nat) : w.frozen? ⟨B, i, none⟩ = false := Joins.unfrozen_of_block h.blk i
theorem Wat.below (h : Wat w B g ct cap d vM vP vG) (hb : Below w.heap.size w w') : Wat w' B g ct cap d vM vP vG :=
  ⟨(hb.block B h.ltB).trans h.blk, h.mem.below hb, own_below h.thr hb, h.pus.below hb, h.got.below hb, h.neM, h.neP, h.neG, h.neT, h.th3⟩
theorem Wat.drew (h : Wat w B g ct cap d vM vP vG) : Wat w.drew B g ct cap d vM vP vG := ⟨h.blk, h.mem, World.ownsRow.drew h.thr, h.pus, h.got, h.neM, h.neP, h.neG, h.neT, h.th3⟩
theorem Wat.drewN (h : Wat w B g ct cap d vM vP vG) (n : Nat) : Wat (w.drewN n) B g ct cap d vM vP vG := ⟨h.blk, h.mem, h.thr, h.pus, h.got, h.neM, h.neP, h.neG, h.neT, h.th3⟩
theorem cells_far {v : Value} {m : List Int} {a : Nat} (h : Cells w v m) (i : Nat) (x : Value) (hne : ∀ y, v.ownBlock = some y → y ≠ a) : Cells (w.setCell ⟨a, i, none⟩ x) v m :=
  cells_block h (by simp [World.setCell]) fun _ y hy _ => Below.heap_setCell w ⟨a, i, none⟩ x y (hne y hy)
theorem ints_block {v : Value} {l : List Int} (h : Ints w v l) (hs : w.heap.size ≤ w'.heap.size) (hk : ∀ x, v.ownBlock = some x → x < w.heap.size → w'.heap[x]? = w.heap[x]?) : Ints w' v l := by
  obtain ⟨A, c, rfl, h1, h2, h3⟩ := h
  refine ⟨A, c, rfl, h1, h2, fun hl => ?_⟩
  obtain ⟨b, off, rfl, hb, hc⟩ := h3 hl
  exact ⟨b, off, rfl, by omega, fun i p hp j u hu => (World.cell?_of_block (w := w) (hk b rfl hb)).trans (hc i p hp j u hu)⟩
theorem ints_far {v : Value} {l : List Int} {a : Nat} (h : Ints w v l) (i : Nat) (x : Value) (hne : ∀ y, v.ownBlock = some y → y ≠ a) : Ints (w.setCell ⟨a, i, none⟩ x) v l :=
  ints_block h (by simp [World.setCell]) fun y hy _ => Below.heap_setCell w ⟨a, i, none⟩ x y (hne y hy)
theorem Wat.putB (h : Wat w B g ct cap d vM vP vG) (i : Nat) (x : Value) {o' : Mc} {nx' : Int} (e : (wcs cap d.owner d.next vM (.slice (some ⟨g, 0, none⟩) 3 ct) vP vG).setIfInBounds i x = wcs cap o' nx' vM (.slice (some ⟨g, 0, none⟩) 3 ct) vP vG) :
    Wat (w.setCell ⟨B, i, none⟩ x) B g ct cap { d with owner := o', next := nx' } vM vP vG :=
  ⟨by rw [Joins.block_setCell h.blk x, e], cells_far h.mem i x (fun y hy => (h.neM y hy).1), ownsRow_setCell_other h.thr (by simp only [Value.ownBlock, ne_eq, Option.some.injEq]; exact h.neT) x, ints_far h.pus i x (fun y hy => (h.neP y hy).1), ints_far h.got i x (fun y hy => (h.neG y hy).1), h.neM, h.neP, h.neG, h.neT, h.th3⟩
theorem Wat.putM (h : Wat w B g ct cap d vM vP vG) {vM' : Value} {m' : List Int} (hv : Cells w vM' m') (hne : ∀ x, vM'.ownBlock = some x → x ≠ B ∧ x ≠ g) : Wat (w.setCell ⟨B, 0, none⟩ vM') B g ct cap { d with m := m' } vM' vP vG :=
  ⟨by rw [Joins.block_setCell h.blk vM']; rfl, cells_far hv 0 _ (fun y hy => (hne y hy).1), ownsRow_setCell_other h.thr (by simp only [Value.ownBlock, ne_eq, Option.some.injEq]; exact h.neT) _, ints_far h.pus 0 _ (fun y hy => (h.neP y hy).1), ints_far h.got 0 _ (fun y hy => (h.neG y hy).1), hne, h.neP, h.neG, h.neT, h.th3⟩
theorem Wat.putP (h : Wat w B g ct cap d vM vP vG) {vP' : Value} {l' : List Int} (hv : Ints w vP' l') (hne : ∀ x, vP'.ownBlock = some x → x ≠ B ∧ x ≠ g) : Wat (w.setCell ⟨B, 11, none⟩ vP') B g ct cap { d with pushed := l' } vM vP' vG :=
  ⟨by rw [Joins.block_setCell h.blk vP']; rfl, cells_far h.mem 11 _ (fun y hy => (h.neM y hy).1), ownsRow_setCell_other h.thr (by simp only [Value.ownBlock, ne_eq, Option.some.injEq]; exact h.neT) _, ints_far hv 11 _ (fun y hy => (hne y hy).1), ints_far h.got 11 _ (fun y hy => (h.neG y hy).1), h.neM, hne, h.neG, h.neT, h.th3⟩
theorem Wat.putG (h : Wat w B g ct cap d vM vP vG) {vG' : Value} {l' : List Int} (hv : Ints w vG' l') (hne : ∀ x, vG'.ownBlock = some x → x ≠ B ∧ x ≠ g) : Wat (w.setCell ⟨B, 12, none⟩ vG') B g ct cap { d with got := l' } vM vP vG' :=
  ⟨by rw [Joins.block_setCell h.blk vG']; rfl, cells_far h.mem 12 _ (fun y hy => (h.neM y hy).1), ownsRow_setCell_other h.thr (by simp only [Value.ownBlock, ne_eq, Option.some.injEq]; exact h.neT) _, ints_far h.pus 12 _ (fun y hy => (h.neP y hy).1), ints_far hv 12 _ (fun y hy => (hne y hy).1), h.neM, h.neP, hne, h.neT, h.th3⟩
end
/-- a thief, stored anew -/
def setT (w : World) (g j : Nat) (k p s c b t x u : Int) : World := (((((((w.setCell ⟨g, j, none⟩ (.int .i64 k)).setCell ⟨g, j + 1, none⟩ (.int .i64 p)).setCell ⟨g, j + 2, none⟩ (.int .i64 s)).setCell ⟨g, j + 3, none⟩ (.int .i64 c)).setCell ⟨g, j + 4, none⟩ (.int .u64 b)).setCell ⟨g, j + 5, none⟩ (.int .u64 t)).setCell ⟨g, j + 6, none⟩ (.int .i64 x)).setCell ⟨g, j + 7, none⟩ (.int .i64 u)
theorem th_set : ∀ (th : List Mc) (n : Nat), th.length = 3 → n < 3 → ∀ k p s c b t x u : Int, ((((((((th.flatMap mc).set (n * 8) (.int .i64 k)).set (n * 8 + 1) (.int .i64 p)).set (n * 8 + 2) (.int .i64 s)).set (n * 8 + 3) (.int .i64 c)).set (n * 8 + 4) (.int .u64 b)).set (n * 8 + 5) (.int .u64 t)).set (n * 8 + 6) (.int .i64 x)).set (n * 8 + 7) (.int .i64 u) = (th.set n ⟨k, p, s, c, b, t, x, u⟩).flatMap mc
  | [_, _, _], 0, _, _ => fun _ _ _ _ _ _ _ _ => rfl
  | [_, _, _], 1, _, _ => fun _ _ _ _ _ _ _ _ => rfl
  | [_, _, _], 2, _, _ => fun _ _ _ _ _ _ _ _ => rfl
section
variable {w w' : World} {B g ct : Nat} {cap : Int} {d : Dw} {vM vP vG : Value}
theorem setT_far (j : Nat) (k p s c b t x u : Int) (i : Nat) (h : i ≠ g) : (setT w g j k p s c b t x u).heap[i]? = w.heap[i]? := by
  simp only [setT, World.setCell, Array.getElem?_modify]
  have h' : ¬ g = i := fun e => h e.symm
  simp [h']
theorem setT_size (j : Nat) (k p s c b t x u : Int) : (setT w g j k p s c b t x u).heap.size = w.heap.size := by simp [setT, World.setCell]
theorem Wat.putT (h : Wat w B g ct cap d vM vP vG) {n : Nat} (hn : n < 3) (k p s c b t x u : Int) : Wat (setT w g (n * 8) k p s c b t x u) B g ct cap { d with th := d.th.set n ⟨k, p, s, c, b, t, x, u⟩ } vM vP vG := by
  have hs : ∀ {vv : Value}, (∀ y, vv.ownBlock = some y → y ≠ B ∧ y ≠ g) → ∀ y, vv.ownBlock = some y → y < w.heap.size → (setT w g (n * 8) k p s c b t x u).heap[y]? = w.heap[y]? := fun hne y hy _ => setT_far _ _ _ _ _ _ _ _ _ y (hne y hy).2
  have h0 := (h.thr.stored (n * 8) (.int .i64 k)).1
  have h1 := (h0.stored (n * 8 + 1) (.int .i64 p)).1
  have h2 := (h1.stored (n * 8 + 2) (.int .i64 s)).1
  have h3 := (h2.stored (n * 8 + 3) (.int .i64 c)).1
  have h4 := (h3.stored (n * 8 + 4) (.int .u64 b)).1
  have h5 := (h4.stored (n * 8 + 5) (.int .u64 t)).1
  have h6 := (h5.stored (n * 8 + 6) (.int .i64 x)).1
  have h7 := (h6.stored (n * 8 + 7) (.int .i64 u)).1
  rw [th_set d.th n h.th3 hn] at h7
  exact ⟨(setT_far _ _ _ _ _ _ _ _ _ B h.neT.symm).trans h.blk, cells_block h.mem (by rw [setT_size]; exact Nat.le_refl _) fun _ => hs h.neM, h7, ints_block h.pus (by rw [setT_size]; exact Nat.le_refl _) (hs h.neP), ints_block h.got (by rw [setT_size]; exact Nat.le_refl _) (hs h.neG), h.neM, h.neP, h.neG, h.neT, by simp [h.th3]⟩
theorem Fr.setT {a : World} (h : Fr a B g w) (j : Nat) (k p s c b t x u : Int) : Fr a B g (setT w g j k p s c b t x u) := (((((((h.setG _ _).setG _ _).setG _ _).setG _ _).setG _ _).setG _ _).setG _ _).setG _ _
theorem th_cell (h : Wat w B g ct cap d vM vP vG) {n : Nat} (_hn : n < 3) {k p s c b t x u : Int} (e : d.th[n]? = some ⟨k, p, s, c, b, t, x, u⟩) :
    w.cell? ⟨g, n * 8, none⟩ = some (.int .i64 k) ∧ w.cell? ⟨g, n * 8 + 1, none⟩ = some (.int .i64 p) ∧ w.cell? ⟨g, n * 8 + 2, none⟩ = some (.int .i64 s) ∧ w.cell? ⟨g, n * 8 + 3, none⟩ = some (.int .i64 c) ∧
    w.cell? ⟨g, n * 8 + 4, none⟩ = some (.int .u64 b) ∧ w.cell? ⟨g, n * 8 + 5, none⟩ = some (.int .u64 t) ∧ w.cell? ⟨g, n * 8 + 6, none⟩ = some (.int .i64 x) ∧ w.cell? ⟨g, n * 8 + 7, none⟩ = some (.int .i64 u) := by
  have hg : ∀ j y, (mc ⟨k, p, s, c, b, t, x, u⟩)[j]? = some y → w.cell? ⟨g, n * 8 + j, none⟩ = some y := fun j y hy => by
    have := h.thr.cells (g := g) rfl (n * 8 + j) y (flatMap_get mc_len d.th n _ e j y hy)
    rw [add_none, Nat.zero_add] at this
    exact this
  exact ⟨hg 0 _ rfl, hg 1 _ rfl, hg 2 _ rfl, hg 3 _ rfl, hg 4 _ rfl, hg 5 _ rfl, hg 6 _ rfl, hg 7 _ rfl⟩
theorem th_unf (h : Wat w B g ct cap d vM vP vG) (j : Nat) : w.frozen? ⟨g, j, none⟩ = false := h.thr.frozenAt j
end
/-- what a step of it leaves -/
def WPost (w : World) (B g ct : Nat) (cap : Int) (d' : Dw) (e : Ending) (w' : World) : Prop := ∃ vM vP vG, e = .returned (.tuple #[]) ∧ Wat w' B g ct cap d' vM vP vG ∧ Fr w B g w'
end Go.Proofs.Ythjdjkcdlknhbaa
/- Layer deque: the law's world: what its steps share. -/
namespace Go.Proofs.Ythjdjkcdlknhbaa
open Go.RowKit

theorem ownB_of {base B g : Nat} {A : Option Addr} {m c : Nat} (hB : B < base) (hg : g < base) (h : ∀ y, (Value.slice A m c).ownBlock = some y → base ≤ y) : ∀ x, (Value.slice A m c).ownBlock = some x → x ≠ B ∧ x ≠ g := fun x hx => by
  have := h x hx; omega
theorem ints_drew {w : World} {v : Value} {l : List Int} (h : Ints w v l) : Ints w.drew v l := h
theorem ints_form' {w : World} {v : Value} {l : List Int} (h : Ints w v l) : ∃ A c, v = .slice A l.length c ∧ l.length ≤ c ∧ c ≤ 9223372036854775807 := by
  obtain ⟨A, c, rfl, h1, h2, -⟩ := h
  exact ⟨A, c, rfl, h1, by unfold maxLen at h2; omega⟩
theorem Add_n (v : Value) (b : List Int) (o : Int) (w : World) (h : Ints w v b) (hk : AllK b) (ho : Kw o) (hb : b.length < 100000) (m : Nat) (hm : (addB b o 1).length = m) :
    Calls Try.prog 40 #[v, .int .i64 o, .int .i64 1] w fun e w' => ∃ A c, e = .returned (.slice A m c) ∧ (m ≤ c ∧ c ≤ 9223372036854775807) ∧ Ints w' (.slice A m c) (addB b o 1) ∧ Below w.heap.size w w' ∧ ∀ y, (Value.slice A m c).ownBlock = some y → w.heap.size ≤ y := by
  subst hm
  refine (bAdd_any v b o 1 w h hk ho (by unfold Kw; omega) (by omega) (by rw [add_one_len]; omega)).mono ?_
  rintro e w' ⟨v', rfl, hown, hbl⟩
  have hi := own_ints hown
  obtain ⟨A, c, rfl, h1, h2⟩ := own_form hown
  exact ⟨A, c, rfl, ⟨h1, by unfold maxLen at h2; omega⟩, hi, hbl, fun y hy => (hown.lt y hy).1⟩
theorem th_setn {th : List Mc} {n : Nat} (h : th.length = 3) (hn : n < 3) (x : Mc) : (th.set n x)[n]? = some x := by rw [List.getElem?_set_self (by omega)]
section
variable {w w' : World} {B g ct : Nat} {cap : Int} {d : Dw} {vM vP vG : Value}
/-- the owner, stored anew -/
def setO (w : World) (B : Nat) (k p s c b t x u : Int) : World := (((((((w.setCell ⟨B, 2, none⟩ (.int .i64 k)).setCell ⟨B, 3, none⟩ (.int .i64 p)).setCell ⟨B, 4, none⟩ (.int .i64 s)).setCell ⟨B, 5, none⟩ (.int .i64 c)).setCell ⟨B, 6, none⟩ (.int .u64 b)).setCell ⟨B, 7, none⟩ (.int .u64 t)).setCell ⟨B, 8, none⟩ (.int .i64 x)).setCell ⟨B, 9, none⟩ (.int .i64 u)
theorem Wat.putO (h : Wat w B g ct cap d vM vP vG) (k p s c b t x u : Int) : Wat (setO w B k p s c b t x u) B g ct cap { d with owner := ⟨k, p, s, c, b, t, x, u⟩ } vM vP vG := by
  obtain ⟨m, ⟨K, P, S, C, Bb, T, X, O⟩, th, pu, go, nx⟩ := d
  have h0 := h.putB 2 (.int .i64 k) (o' := ⟨k, P, S, C, Bb, T, X, O⟩) (nx' := nx) rfl
  have h1 := h0.putB 3 (.int .i64 p) (o' := ⟨k, p, S, C, Bb, T, X, O⟩) (nx' := nx) rfl
  have h2 := h1.putB 4 (.int .i64 s) (o' := ⟨k, p, s, C, Bb, T, X, O⟩) (nx' := nx) rfl
  have h3 := h2.putB 5 (.int .i64 c) (o' := ⟨k, p, s, c, Bb, T, X, O⟩) (nx' := nx) rfl
  have h4 := h3.putB 6 (.int .u64 b) (o' := ⟨k, p, s, c, b, T, X, O⟩) (nx' := nx) rfl
  have h5 := h4.putB 7 (.int .u64 t) (o' := ⟨k, p, s, c, b, t, X, O⟩) (nx' := nx) rfl
  have h6 := h5.putB 8 (.int .i64 x) (o' := ⟨k, p, s, c, b, t, x, O⟩) (nx' := nx) rfl
  exact h6.putB 9 (.int .i64 u) (o' := ⟨k, p, s, c, b, t, x, u⟩) (nx' := nx) rfl
theorem Wat.putX (h : Wat w B g ct cap d vM vP vG) {k p s c b t x u : Int} (e : d.owner = ⟨k, p, s, c, b, t, x, u⟩) (y : Int) : Wat (w.setCell ⟨B, 8, none⟩ (.int .i64 y)) B g ct cap { d with owner := ⟨k, p, s, c, b, t, y, u⟩ } vM vP vG := by
  obtain ⟨m, ow, th, pu, go, nx⟩ := d
  simp only at e
  subst e
  exact h.putB 8 (.int .i64 y) (o' := ⟨k, p, s, c, b, t, y, u⟩) (nx' := nx) rfl
theorem Wat.putN (h : Wat w B g ct cap d vM vP vG) (y : Int) : Wat (w.setCell ⟨B, 13, none⟩ (.int .i64 y)) B g ct cap { d with next := y } vM vP vG :=
  h.putB 13 (.int .i64 y) (o' := d.owner) (nx' := y) rfl
theorem Fr.setO {a : World} (h : Fr a B g w) (k p s c b t x u : Int) : Fr a B g (setO w B k p s c b t x u) := (((((((h.setB _ _).setB _ _).setB _ _).setB _ _).setB _ _).setB _ _).setB _ _).setB _ _
theorem own_cells (h : Wat w B g ct cap d vM vP vG) {k p s c b t x u : Int} (e : d.owner = ⟨k, p, s, c, b, t, x, u⟩) :
    w.cell? ⟨B, 2, none⟩ = some (.int .i64 k) ∧ w.cell? ⟨B, 3, none⟩ = some (.int .i64 p) ∧ w.cell? ⟨B, 4, none⟩ = some (.int .i64 s) ∧ w.cell? ⟨B, 5, none⟩ = some (.int .i64 c) ∧
    w.cell? ⟨B, 6, none⟩ = some (.int .u64 b) ∧ w.cell? ⟨B, 7, none⟩ = some (.int .u64 t) ∧ w.cell? ⟨B, 8, none⟩ = some (.int .i64 x) ∧ w.cell? ⟨B, 9, none⟩ = some (.int .i64 u) := by
  have h2 := h.cell 2
  have h3 := h.cell 3
  have h4 := h.cell 4
  have h5 := h.cell 5
  have h6 := h.cell 6
  have h7 := h.cell 7
  have h8 := h.cell 8
  have h9 := h.cell 9
  rw [e] at h2 h3 h4 h5 h6 h7 h8 h9
  exact ⟨h2, h3, h4, h5, h6, h7, h8, h9⟩
theorem own_unfs (h : Wat w B g ct cap d vM vP vG) : w.frozen? ⟨B, 2, none⟩ = false ∧ w.frozen? ⟨B, 3, none⟩ = false ∧ w.frozen? ⟨B, 4, none⟩ = false ∧ w.frozen? ⟨B, 5, none⟩ = false ∧
    w.frozen? ⟨B, 6, none⟩ = false ∧ w.frozen? ⟨B, 7, none⟩ = false ∧ w.frozen? ⟨B, 8, none⟩ = false ∧ w.frozen? ⟨B, 9, none⟩ = false :=
  ⟨h.unf 2, h.unf 3, h.unf 4, h.unf 5, h.unf 6, h.unf 7, h.unf 8, h.unf 9⟩
end

/-- what a step needs of the world -/
structure WatU (d : Dw) : Prop where
  m : AllU d.m
  o : McU d.owner
  big : d.m.length * 8 ≤ 140737488351232
  kp : AllK d.pushed
  kg : AllK d.got
  lp : d.pushed.length < 100000
  lg : d.got.length < 100000

end Go.Proofs.Ythjdjkcdlknhbaa
