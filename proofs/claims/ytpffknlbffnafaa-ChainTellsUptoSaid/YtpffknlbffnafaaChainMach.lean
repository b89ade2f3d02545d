/- Layer chain: a machine as a value; one that came in; the box of a machine that turns. -/
import Derived.Test.YtpffknlbffnafaaDequeMach
import Derived.Test.YtpffknlbffnafaaChainP
namespace Go.Proofs.Ytpffknlbffnafaa.ch
open Go.RowKit Go.Joins Go.WideShapes Go.ChangeShapes Go.ChangeAt Go.Deep

/-- a machine, as a value -/
abbrev mv (d : Cm) : Value := .agg #[.int .i64 d.kind, .int .i64 d.pc, .int .i64 d.head, .int .i64 d.next, .int .u64 d.h, .int .i64 d.x, .int .i64 d.y, .int .i64 d.out]
abbrev mvv (k p s c b t x u : Int) : Value := .agg #[.int .i64 k, .int .i64 p, .int .i64 s, .int .i64 c, .int .u64 b, .int .i64 t, .int .i64 x, .int .i64 u]
structure McU (d : Cm) : Prop where
  kind : I6 d.kind
  pc : I6 d.pc
  head : I6 d.head
  next : I6 d.next
  h : U d.h
  x : I6 d.x
  y : I6 d.y
  out : I6 d.out
set_option maxRecDepth 100000 in
theorem open_mach {H : Type} {enc : TypeId × Value → H} {W : World} {base : Nat} {spare : Nat → Bool} {held : Bool} {v : Value} {d : DataW H} {ps : List MemPlace} {r : Reach} {b0 : Nat} (ok : Value.okWide Try.prog W r b0 26 v) (h : DataW.Trod enc Try.prog W base spare held 26 v d ps) :
    ∃ k p s c b t x u : Int, v = mvv k p s c b t x u ∧ McU ⟨k, p, s, c, b, t, x, u⟩ := by
  obtain ⟨v0, v1, v2, v3, v4, v5, v6, v7, y0, y1, y2, y3, y4, y5, y6, y7, m, rfl, -, -, h0, h1, h2, h3, h4, h5, h6, h7⟩ := open_agg8 Try.underlying26 (by kernel_rfl) (by kernel_rfl) ok h
  obtain ⟨k, hk, _, wk⟩ := DataW.trod_int Try.underlying3 h0
  obtain ⟨p, hp, _, wp⟩ := DataW.trod_int Try.underlying3 h1
  obtain ⟨s, hs, _, ws⟩ := DataW.trod_int Try.underlying3 h2
  obtain ⟨c, hc, _, wc⟩ := DataW.trod_int Try.underlying3 h3
  obtain ⟨b, hb, _, wb⟩ := DataW.trod_int Try.underlying24 h4
  obtain ⟨t, ht, _, wt⟩ := DataW.trod_int Try.underlying3 h5
  obtain ⟨x, hx, _, wx⟩ := DataW.trod_int Try.underlying3 h6
  obtain ⟨u, hu, _, wu⟩ := DataW.trod_int Try.underlying3 h7
  simp only [List.cons.injEq, and_true] at hk hp hs hc hb ht hx hu
  subst hk hp hs hc hb ht hx hu
  have i : ∀ {z : Int}, (Lit.int IntKind.i64 z).wf = true → I6 z := fun w => by simpa [I6, Lit.wf, IntKind.min, IntKind.max, IntKind.signed, IntKind.bits] using w
  have u6 : ∀ {z : Int}, (Lit.int IntKind.u64 z).wf = true → U z := fun w => by simpa [U, Lit.wf, IntKind.min, IntKind.max, IntKind.signed, IntKind.bits] using w
  exact ⟨k, p, s, c, b, t, x, u, rfl, i wk, i wp, i ws, i wc, u6 wb, i wt, i wx, i wu⟩

/-- the cells of a machine that turns -/
def tc (d : Cm) (v : Value) : Array Value := #[.int .i64 d.kind, .int .i64 d.pc, .int .i64 d.head, .int .i64 d.next, .int .u64 d.h, .int .i64 d.x, .int .i64 d.y, .int .i64 d.out, v]
/-- block B has a machine that turns, d, on cells v that read as m -/
structure Tn (w : World) (B : Nat) (d : Cm) (v : Value) (m : List Int) : Prop where
  blk : w.heap[B]? = some (.cells (tc d v) 58)
  mem : Cells w v m
  ne : 0 < m.length → ∀ x, v.ownBlock = some x → x ≠ B
section
variable {w w' : World} {B : Nat} {d : Cm} {v v' : Value} {m m' : List Int}
theorem Tn.lt (h : Tn w B d v m) : B < w.heap.size := (Array.getElem?_eq_some_iff.1 h.blk).1
theorem Tn.cell (h : Tn w B d v m) (i : Nat) : w.cell? ⟨B, i, none⟩ = (tc d v)[i]? := cell_of_block h.blk i
theorem Tn.unf (h : Tn w B d v m) (i : Nat) : w.frozen? ⟨B, i, none⟩ = false := unfrozen_of_block h.blk i
theorem Tn.below (h : Tn w B d v m) (hb : Below w.heap.size w w') : Tn w' B d v m := ⟨(hb.block B h.lt).trans h.blk, h.mem.below hb, h.ne⟩
theorem Tn.put (h : Tn w B d v m) (i : Nat) (x : Value) {d' : Cm} (e : (tc d v).setIfInBounds i x = tc d' v) : Tn (w.setCell ⟨B, i, none⟩ x) B d' v m :=
  ⟨by rw [block_setCell h.blk x, e], cells_grown h.mem (grown_set w B i x) h.ne, h.ne⟩
theorem Tn.put_mem (h : Tn w B d v m) (hv : Cells w v' m') (hne : 0 < m'.length → ∀ x, v'.ownBlock = some x → x ≠ B) : Tn (w.setCell ⟨B, 8, none⟩ v') B d v' m' :=
  ⟨by rw [block_setCell h.blk v']; rfl, cells_grown hv (grown_set w B 8 v') hne, hne⟩
theorem Tn.kept (h : Tn w B d v m) (hb : w'.heap[B]? = w.heap[B]?) (hc : Cells w' v m) : Tn w' B d v m := ⟨hb.trans h.blk, hc, h.ne⟩
end
def TPost (w : World) (B : Nat) (d' : Cm) (m' : List Int) (r : Value) (e : Ending) (w' : World) : Prop := ∃ v', e = .returned r ∧ Tn w' B d' v' m' ∧ Gn w B v' w'
section
variable {w : World} {B : Nat} {k p s c b t x u : Int} {v : Value} {m : List Int}
theorem Tn.c0 (h : Tn w B ⟨k, p, s, c, b, t, x, u⟩ v m) : w.cell? ⟨B, 0, none⟩ = some (.int .i64 k) := h.cell 0
theorem Tn.c1 (h : Tn w B ⟨k, p, s, c, b, t, x, u⟩ v m) : w.cell? ⟨B, 1, none⟩ = some (.int .i64 p) := h.cell 1
theorem Tn.c2 (h : Tn w B ⟨k, p, s, c, b, t, x, u⟩ v m) : w.cell? ⟨B, 2, none⟩ = some (.int .i64 s) := h.cell 2
theorem Tn.c3 (h : Tn w B ⟨k, p, s, c, b, t, x, u⟩ v m) : w.cell? ⟨B, 3, none⟩ = some (.int .i64 c) := h.cell 3
theorem Tn.c4 (h : Tn w B ⟨k, p, s, c, b, t, x, u⟩ v m) : w.cell? ⟨B, 4, none⟩ = some (.int .u64 b) := h.cell 4
theorem Tn.c5 (h : Tn w B ⟨k, p, s, c, b, t, x, u⟩ v m) : w.cell? ⟨B, 5, none⟩ = some (.int .i64 t) := h.cell 5
theorem Tn.c6 (h : Tn w B ⟨k, p, s, c, b, t, x, u⟩ v m) : w.cell? ⟨B, 6, none⟩ = some (.int .i64 x) := h.cell 6
theorem Tn.c7 (h : Tn w B ⟨k, p, s, c, b, t, x, u⟩ v m) : w.cell? ⟨B, 7, none⟩ = some (.int .i64 u) := h.cell 7
theorem Tn.p1 (h : Tn w B ⟨k, p, s, c, b, t, x, u⟩ v m) (y : Int) : Tn (w.setCell ⟨B, 1, none⟩ (.int .i64 y)) B ⟨k, y, s, c, b, t, x, u⟩ v m := h.put 1 _ rfl
theorem Tn.p4 (h : Tn w B ⟨k, p, s, c, b, t, x, u⟩ v m) (y : Int) : Tn (w.setCell ⟨B, 4, none⟩ (.int .u64 y)) B ⟨k, p, s, c, y, t, x, u⟩ v m := h.put 4 _ rfl
theorem Tn.p5 (h : Tn w B ⟨k, p, s, c, b, t, x, u⟩ v m) (y : Int) : Tn (w.setCell ⟨B, 5, none⟩ (.int .i64 y)) B ⟨k, p, s, c, b, y, x, u⟩ v m := h.put 5 _ rfl
theorem Tn.p6 (h : Tn w B ⟨k, p, s, c, b, t, x, u⟩ v m) (y : Int) : Tn (w.setCell ⟨B, 6, none⟩ (.int .i64 y)) B ⟨k, p, s, c, b, t, y, u⟩ v m := h.put 6 _ rfl
theorem Tn.p7 (h : Tn w B ⟨k, p, s, c, b, t, x, u⟩ v m) (y : Int) : Tn (w.setCell ⟨B, 7, none⟩ (.int .i64 y)) B ⟨k, p, s, c, b, t, x, y⟩ v m := h.put 7 _ rfl
end
/-! a machine in a box -/
def mcs (d : Cm) : Array Value := #[.int .i64 d.kind, .int .i64 d.pc, .int .i64 d.head, .int .i64 d.next, .int .u64 d.h, .int .i64 d.x, .int .i64 d.y, .int .i64 d.out]
structure Mb (w : World) (B : Nat) (d : Cm) : Prop where
  blk : w.heap[B]? = some (.cells (mcs d) 26)
section
variable {w w' : World} {B : Nat} {d : Cm}
theorem Mb.lt (h : Mb w B d) : B < w.heap.size := (Array.getElem?_eq_some_iff.1 h.blk).1
theorem Mb.cell (h : Mb w B d) (i : Nat) : w.cell? ⟨B, i, none⟩ = (mcs d)[i]? := Joins.cell_of_block h.blk i
theorem Mb.unf (h : Mb w B d) (i : Nat) : w.frozen? ⟨B, i, none⟩ = false := Joins.unfrozen_of_block h.blk i
theorem Mb.below (h : Mb w B d) (hb : Below w.heap.size w w') : Mb w' B d := ⟨(hb.block B h.lt).trans h.blk⟩
end
section
variable {w : World} {B : Nat} {k p s c b t x u : Int}
theorem Mb.cells (h : Mb w B ⟨k, p, s, c, b, t, x, u⟩) : w.cell? ⟨B, 0, none⟩ = some (.int .i64 k) ∧ w.cell? ⟨B, 1, none⟩ = some (.int .i64 p) ∧ w.cell? ⟨B, 2, none⟩ = some (.int .i64 s) ∧ w.cell? ⟨B, 3, none⟩ = some (.int .i64 c) ∧
    w.cell? ⟨B, 4, none⟩ = some (.int .u64 b) ∧ w.cell? ⟨B, 5, none⟩ = some (.int .i64 t) ∧ w.cell? ⟨B, 6, none⟩ = some (.int .i64 x) ∧ w.cell? ⟨B, 7, none⟩ = some (.int .i64 u) :=
  ⟨h.cell 0, h.cell 1, h.cell 2, h.cell 3, h.cell 4, h.cell 5, h.cell 6, h.cell 7⟩
theorem Mb.unfs {d : Cm} (h : Mb w B d) : w.frozen? ⟨B, 0, none⟩ = false ∧ w.frozen? ⟨B, 1, none⟩ = false ∧ w.frozen? ⟨B, 2, none⟩ = false ∧ w.frozen? ⟨B, 3, none⟩ = false ∧
    w.frozen? ⟨B, 4, none⟩ = false ∧ w.frozen? ⟨B, 5, none⟩ = false ∧ w.frozen? ⟨B, 6, none⟩ = false ∧ w.frozen? ⟨B, 7, none⟩ = false :=
  ⟨h.unf 0, h.unf 1, h.unf 2, h.unf 3, h.unf 4, h.unf 5, h.unf 6, h.unf 7⟩
end
theorem mb_new (w : World) (d : Cm) : Mb (w.alloc (.cells (mcs d) 26)) w.heap.size d := ⟨heap_alloc_new w _⟩
/-- a machine that came in, and the box of one that goes out -/
theorem box_two (w : World) (k p s c b t x u : Int) : ∃ w1, (w.alloc (.cells #[.int .i64 k, .int .i64 p, .int .i64 s, .int .i64 c, .int .u64 b, .int .i64 t, .int .i64 x, .int .i64 u] 26)).alloc (.cells #[.int .i64 0, .int .i64 0, .int .i64 0, .int .i64 0, .int .u64 0, .int .i64 0, .int .i64 0, .int .i64 0] 26) = w1 ∧
    Below w.heap.size w w1 ∧ w1.heap.size = w.heap.size + 1 + 1 ∧ Mb w1 w.heap.size ⟨k, p, s, c, b, t, x, u⟩ ∧ Mb w1 (w.heap.size + 1) ⟨0, 0, 0, 0, 0, 0, 0, 0⟩ := by
  refine ⟨_, rfl, bcall (bal _ _) (bal _ _), by simp, (mb_new w ⟨k, p, s, c, b, t, x, u⟩).below (bal _ _), ?_⟩
  have := mb_new (w.alloc (.cells (mcs ⟨k, p, s, c, b, t, x, u⟩) 26)) ⟨0, 0, 0, 0, 0, 0, 0, 0⟩
  simp at this
  exact this
theorem below_set8 {n : Nat} {a w : World} {R : Nat} (h : Below n a w) (hR : n ≤ R) (x0 x1 x2 x3 x4 x5 x6 x7 : Value) :
    Below n a ((((((((w.setCell ⟨R, 0, none⟩ x0).setCell ⟨R, 1, none⟩ x1).setCell ⟨R, 2, none⟩ x2).setCell ⟨R, 3, none⟩ x3).setCell ⟨R, 4, none⟩ x4).setCell ⟨R, 5, none⟩ x5).setCell ⟨R, 6, none⟩ x6).setCell ⟨R, 7, none⟩ x7) :=
  (((((((h.setCell (p := ⟨R, 0, none⟩) hR x0).setCell (p := ⟨R, 1, none⟩) hR x1).setCell (p := ⟨R, 2, none⟩) hR x2).setCell (p := ⟨R, 3, none⟩) hR x3).setCell (p := ⟨R, 4, none⟩) hR x4).setCell (p := ⟨R, 5, none⟩) hR x5).setCell (p := ⟨R, 6, none⟩) hR x6).setCell (p := ⟨R, 7, none⟩) hR x7
theorem Mb.put {w : World} {B : Nat} {d d' : Cm} (h : Mb w B d) (i : Nat) (x : Value) (e : (mcs d).setIfInBounds i x = mcs d') : Mb (w.setCell ⟨B, i, none⟩ x) B d' := ⟨by rw [Joins.block_setCell h.blk x, e]⟩
/-- a machine in a box, stored anew -/
def set8 (w : World) (R : Nat) (k p s c b t x u : Int) : World := (((((((w.setCell ⟨R, 0, none⟩ (.int .i64 k)).setCell ⟨R, 1, none⟩ (.int .i64 p)).setCell ⟨R, 2, none⟩ (.int .i64 s)).setCell ⟨R, 3, none⟩ (.int .i64 c)).setCell ⟨R, 4, none⟩ (.int .u64 b)).setCell ⟨R, 5, none⟩ (.int .i64 t)).setCell ⟨R, 6, none⟩ (.int .i64 x)).setCell ⟨R, 7, none⟩ (.int .i64 u)
section
variable {w : World} {R : Nat} {k p s c b t x u : Int}
theorem set8_size : (set8 w R k p s c b t x u).heap.size = w.heap.size := by simp [set8, World.setCell]
theorem set8_far (i : Nat) (h : i ≠ R) : (set8 w R k p s c b t x u).heap[i]? = w.heap[i]? := by
  simp only [set8, World.setCell, Array.getElem?_modify]
  have h' : ¬ R = i := fun e => h e.symm
  simp [h']
theorem set8_below {n : Nat} {a : World} (h : Below n a w) (hR : n ≤ R) : Below n a (set8 w R k p s c b t x u) := below_set8 h hR _ _ _ _ _ _ _ _
theorem Mb.set8 {d : Cm} (h : Mb w R d) : Mb (set8 w R k p s c b t x u) R ⟨k, p, s, c, b, t, x, u⟩ := by
  obtain ⟨K, P, S, C, B, T, X, O⟩ := d
  have h0 : Mb _ R ⟨k, P, S, C, B, T, X, O⟩ := h.put 0 (.int .i64 k) rfl
  have h1 : Mb _ R ⟨k, p, S, C, B, T, X, O⟩ := h0.put 1 (.int .i64 p) rfl
  have h2 : Mb _ R ⟨k, p, s, C, B, T, X, O⟩ := h1.put 2 (.int .i64 s) rfl
  have h3 : Mb _ R ⟨k, p, s, c, B, T, X, O⟩ := h2.put 3 (.int .i64 c) rfl
  have h4 : Mb _ R ⟨k, p, s, c, b, T, X, O⟩ := h3.put 4 (.int .u64 b) rfl
  have h5 : Mb _ R ⟨k, p, s, c, b, t, X, O⟩ := h4.put 5 (.int .i64 t) rfl
  have h6 : Mb _ R ⟨k, p, s, c, b, t, x, O⟩ := h5.put 6 (.int .i64 x) rfl
  have h7 : Mb _ R ⟨k, p, s, c, b, t, x, u⟩ := h6.put 7 (.int .i64 u) rfl
  exact h7
theorem Mb.far {R' : Nat} {d : Cm} (h : Mb w R' d) (hne : R' ≠ R) : Mb (Go.Proofs.Ytpffknlbffnafaa.ch.set8 w R k p s c b t x u) R' d := ⟨(set8_far R' hne).trans h.blk⟩
theorem cells_set8 {v : Value} {m : List Int} (h : Cells w v m) (hne : 0 < m.length → ∀ y, v.ownBlock = some y → y ≠ R) : Cells (set8 w R k p s c b t x u) v m :=
  cells_block h (by rw [set8_size]; exact Nat.le_refl _) fun h0 y hy _ => set8_far y (hne h0 y hy)
end

theorem TPost.of {w w' : World} {B : Nat} {d : Cm} {v : Value} {m : List Int} {r : Value} (h : Tn w' B d v m) (hg : Gn w B v w') : TPost w B d m r (.returned r) w' := ⟨v, rfl, h, hg⟩
theorem Tn.drewN {w : World} {B : Nat} {d : Cm} {v : Value} {m : List Int} (h : Tn w B d v m) (n : Nat) : Tn (w.drewN n) B d v m := ⟨h.blk, h.mem, h.ne⟩
theorem Tn.drew {w : World} {B : Nat} {d : Cm} {v : Value} {m : List Int} (h : Tn w B d v m) : Tn w.drew B d v m := ⟨h.blk, cells_drew h.mem, h.ne⟩
theorem box_res (w : World) (k p s c b t x u : Int) : ∃ w1, w.alloc (.cells #[.int .i64 k, .int .i64 p, .int .i64 s, .int .i64 c, .int .u64 b, .int .i64 t, .int .i64 x, .int .i64 u] 26) = w1 ∧ Below w.heap.size w w1 ∧ Mb w1 w.heap.size ⟨k, p, s, c, b, t, x, u⟩ :=
  ⟨_, rfl, bal _ _, mb_new w ⟨k, p, s, c, b, t, x, u⟩⟩
end Go.Proofs.Ytpffknlbffnafaa.ch
