/- Layer state: machines and states as values, and what their slices read as. Written by tools/genstate1.py. -/
import Derived.Lib.SmallJoins
import Derived.Test.YtdmbcjckgfjcaaaGreatDoorRaq
import Derived.Test.YtdmbcjckgfjcaaaGreatDoorRav
import Derived.Test.YtdmbcjckgfjcaaaGreatDoorRak
import Derived.Test.YtdmbcjckgfjcaaaGreatDoorRac
namespace Go.Proofs.YtdmbcjckgfjcaaaGreatDoor
open Go.RowKit Go.Joins
abbrev wkL (q : Wq) (b : Value) : List Value := [.int .i64 q.pc, .int .i64 q.obj, .int .i64 q.slot, .int .i64 q.victim, .int .i64 q.bin, b, .int .i64 q.d.kind, .int .i64 q.d.pc, .int .i64 q.d.base, .int .i64 q.d.cap, .int .u64 q.d.b, .int .u64 q.d.t, .int .i64 q.d.x, .int .i64 q.d.out, .int .i64 q.c.kind, .int .i64 q.c.pc, .int .i64 q.c.head, .int .i64 q.c.next, .int .u64 q.c.h, .int .i64 q.c.x, .int .i64 q.c.y, .int .i64 q.c.out, .int .i64 q.g.pc, .int .i64 q.g.mode, .int .i64 q.g.obj, .int .i64 q.g.who, .int .i64 q.g.d.kind, .int .i64 q.g.d.pc, .int .i64 q.g.d.base, .int .i64 q.g.d.cap, .int .u64 q.g.d.b, .int .u64 q.g.d.t, .int .i64 q.g.d.x, .int .i64 q.g.d.out, .int .i64 q.g.c.kind, .int .i64 q.g.c.pc, .int .i64 q.g.c.head, .int .i64 q.g.c.next, .int .u64 q.g.c.h, .int .i64 q.g.c.x, .int .i64 q.g.c.y, .int .i64 q.g.c.out, .int .i64 q.g.bin, .int .i64 q.g.out]
abbrev wk0 : List Value := [.int .i64 0, .int .i64 0, .int .i64 0, .int .i64 0, .int .i64 0, .slice none 0 0, .int .i64 0, .int .i64 0, .int .i64 0, .int .i64 0, .int .u64 0, .int .u64 0, .int .i64 0, .int .i64 0, .int .i64 0, .int .i64 0, .int .i64 0, .int .i64 0, .int .u64 0, .int .i64 0, .int .i64 0, .int .i64 0, .int .i64 0, .int .i64 0, .int .i64 0, .int .i64 0, .int .i64 0, .int .i64 0, .int .i64 0, .int .i64 0, .int .u64 0, .int .u64 0, .int .i64 0, .int .i64 0, .int .i64 0, .int .i64 0, .int .i64 0, .int .i64 0, .int .u64 0, .int .i64 0, .int .i64 0, .int .i64 0, .int .i64 0, .int .i64 0]
abbrev utL (q : Uq) (r b t : Value) : List Value := [.int .i64 q.pc, .int .i64 q.ip, .int .i64 q.ret, .int .i64 q.want, .int .i64 q.old, .int .i64 q.obj, .int .i64 q.slot, .int .i64 q.bin, r, b, t, .int .i64 q.c.kind, .int .i64 q.c.pc, .int .i64 q.c.head, .int .i64 q.c.next, .int .u64 q.c.h, .int .i64 q.c.x, .int .i64 q.c.y, .int .i64 q.c.out, .int .i64 q.g.pc, .int .i64 q.g.mode, .int .i64 q.g.obj, .int .i64 q.g.who, .int .i64 q.g.d.kind, .int .i64 q.g.d.pc, .int .i64 q.g.d.base, .int .i64 q.g.d.cap, .int .u64 q.g.d.b, .int .u64 q.g.d.t, .int .i64 q.g.d.x, .int .i64 q.g.d.out, .int .i64 q.g.c.kind, .int .i64 q.g.c.pc, .int .i64 q.g.c.head, .int .i64 q.g.c.next, .int .u64 q.g.c.h, .int .i64 q.g.c.x, .int .i64 q.g.c.y, .int .i64 q.g.c.out, .int .i64 q.g.bin, .int .i64 q.g.out]
abbrev ut0 : List Value := [.int .i64 0, .int .i64 0, .int .i64 0, .int .i64 0, .int .i64 0, .int .i64 0, .int .i64 0, .int .i64 0, .slice none 0 0, .slice none 0 0, .slice none 0 0, .int .i64 0, .int .i64 0, .int .i64 0, .int .i64 0, .int .u64 0, .int .i64 0, .int .i64 0, .int .i64 0, .int .i64 0, .int .i64 0, .int .i64 0, .int .i64 0, .int .i64 0, .int .i64 0, .int .i64 0, .int .i64 0, .int .u64 0, .int .u64 0, .int .i64 0, .int .i64 0, .int .i64 0, .int .i64 0, .int .i64 0, .int .i64 0, .int .u64 0, .int .i64 0, .int .i64 0, .int .i64 0, .int .i64 0, .int .i64 0]
/-- a slice, by its three parts -/
abbrev Hd := Option Addr × Nat × Nat
abbrev hdV (h : Hd) : Value := .slice h.1 h.2.1 h.2.2
/-- a state's slices -/
structure Sv where
  ob : Hd
  rg : Hd
  pg : Hd
  pk : Hd
  hob : Hd
  m : Hd
  bins : Hd
  acks : Hd
  bl : Hd
  ws : Hd
  ms : Hd
abbrev stL (q : Sq) (v : Sv) : List Value := [.int .i64 q.p.wk, .int .i64 q.p.mu, .int .i64 q.p.cp, .int .i64 q.p.bf, .int .i64 q.p.bn, .int .i64 q.p.mo, .int .i64 q.p.pr, .int .i64 q.p.li, .int .i64 q.p.sl, (hdV v.ob), .int .u64 (q.p.ro : Int), (hdV v.rg), (hdV v.pg), (hdV v.pk), .int .i64 q.sl, (hdV v.hob), (hdV v.m), (hdV v.bins), .int .u64 (q.marks : Int), .int .u64 (q.black : Int), .int .i64 q.work, .int .i64 q.epoch, .bool q.flag, .bool q.done, .int .i64 q.restarts, (hdV v.acks), .int .i64 q.l.scanned, .int .i64 q.l.spent, .int .i64 q.l.pool, (hdV v.bl), (hdV v.ws), (hdV v.ms), .int .i64 q.dpc, .int .i64 q.di]
abbrev st0Sa : List Value := [.int .i64 0, .int .i64 0, .int .i64 0, .int .i64 0, .int .i64 0, .int .i64 0, .int .i64 0, .int .i64 0, .int .i64 0, .slice none 0 0, .int .u64 0, .slice none 0 0, .slice none 0 0, .slice none 0 0, .int .i64 0, .slice none 0 0, .slice none 0 0, .slice none 0 0, .int .u64 0, .int .u64 0, .int .i64 0, .int .i64 0, .bool false, .bool false, .int .i64 0, .slice none 0 0, .int .i64 0, .int .i64 0, .int .i64 0, .slice none 0 0, .slice none 0 0, .slice none 0 0, .int .i64 0, .int .i64 0]
/-- a worker, its batch -/
abbrev Wv := Wq × Hd
/-- a mutator, its registers, buffer, batch -/
abbrev Uv := Uq × Hd × Hd × Hd
def wkE (x : Wv) : List Value := wkL x.1 (hdV x.2)
def utE (x : Uv) : List Value := utL x.1 (hdV x.2.1) (hdV x.2.2.1) (hdV x.2.2.2)
theorem wkE_len (x : Wv) : (wkE x).length = 44 := rfl
theorem utE_len (x : Uv) : (utE x).length = 41 := rfl
theorem wkE_one (x : Wv) : ∀ u ∈ wkE x, u.oneCell' = true := List.all_eq_true.1 (show (wkE x).all (fun u => u.oneCell') = true from rfl)
theorem utE_one (x : Uv) : ∀ u ∈ utE x, u.oneCell' = true := List.all_eq_true.1 (show (utE x).all (fun u => u.oneCell') = true from rfl)
theorem wkA_one (q : Wq) (b : Hd) : (wkL q (hdV b)).toArray.all (fun u => u.oneCell') = true := by rw [List.all_toArray]; rfl
theorem utA_one (q : Uq) (r b t : Hd) : (utL q (hdV r) (hdV b) (hdV t)).toArray.all (fun u => u.oneCell') = true := by rw [List.all_toArray]; rfl
theorem stA_one (q : Sq) (v : Sv) : (stL q v).toArray.all (fun u => u.oneCell') = true := by rw [List.all_toArray]; rfl
theorem hd_of {α : Type} {enc : α → List Value} {size : Nat} {w : World} {v : Value} {l : List α} (h : Sl enc size w v l) : ∃ x : Hd, v = hdV x ∧ x.2.1 = l.length := by
  obtain ⟨A, c, rfl, _⟩ := h; exact ⟨(A, l.length, c), rfl, rfl⟩
def WkR (w : World) (x : Wv) (q : Wq) : Prop := x.1 = q ∧ Ints w (hdV x.2) q.batch
def UtR (w : World) (x : Uv) (q : Uq) : Prop := x.1 = q ∧ Ints w (hdV x.2.1) q.regs ∧ Ints w (hdV x.2.2.1) q.buf ∧ Ints w (hdV x.2.2.2) q.batch
theorem WkR.below {w w' : World} {x : Wv} {q : Wq} (h : WkR w x q) (hb : Below w.heap.size w w') : WkR w' x q := ⟨h.1, h.2.below hb⟩
theorem UtR.below {w w' : World} {x : Uv} {q : Uq} (h : UtR w x q) (hb : Below w.heap.size w w') : UtR w' x q := ⟨h.1, h.2.1.below hb, h.2.2.1.below hb, h.2.2.2.below hb⟩
/-- slices of machines -/
def Wks (w : World) (v : Value) (l : List Wq) : Prop := ∃ es : List Wv, Sl wkE 44 w v es ∧ es.length = l.length ∧ ∀ (i : Nat) (x : Wv) (q : Wq), es[i]? = some x → l[i]? = some q → WkR w x q
def Uts (w : World) (v : Value) (l : List Uq) : Prop := ∃ es : List Uv, Sl utE 41 w v es ∧ es.length = l.length ∧ ∀ (i : Nat) (x : Uv) (q : Uq), es[i]? = some x → l[i]? = some q → UtR w x q
section
variable {w w' : World} {v : Value}
theorem Wks.below {l : List Wq} (h : Wks w v l) (hb : Below w.heap.size w w') : Wks w' v l := by
  obtain ⟨es, h1, h2, h3⟩ := h
  exact ⟨es, h1.below hb, h2, fun i x q hx hq => (h3 i x q hx hq).below hb⟩
theorem Uts.below {l : List Uq} (h : Uts w v l) (hb : Below w.heap.size w w') : Uts w' v l := by
  obtain ⟨es, h1, h2, h3⟩ := h
  exact ⟨es, h1.below hb, h2, fun i x q hx hq => (h3 i x q hx hq).below hb⟩
theorem Wks.form {l : List Wq} (h : Wks w v l) : ∃ A c, v = .slice A l.length c ∧ l.length ≤ c ∧ c ≤ maxLen := by
  obtain ⟨es, ⟨A, c, rfl, h1, h2, _⟩, hl, _⟩ := h
  exact ⟨A, c, by rw [hl], by omega, h2⟩
theorem Uts.form {l : List Uq} (h : Uts w v l) : ∃ A c, v = .slice A l.length c ∧ l.length ≤ c ∧ c ≤ maxLen := by
  obtain ⟨es, ⟨A, c, rfl, h1, h2, _⟩, hl, _⟩ := h
  exact ⟨A, c, by rw [hl], by omega, h2⟩
theorem Wks.nil_ : Wks w (.slice none 0 0) [] := ⟨[], Sl.nil_, rfl, by simp⟩
theorem Uts.nil_ : Uts w (.slice none 0 0) [] := ⟨[], Sl.nil_, rfl, by simp⟩
end
/-- what a state's slices read as -/
structure StR (w : World) (v : Sv) (q : Sq) : Prop where
  p : PlanR w (hdV v.ob) (hdV v.rg) (hdV v.pg) (hdV v.pk) q.p
  hob : Grid w (hdV v.hob) q.ob
  m : Cells w (hdV v.m) q.m
  bins : Grid w (hdV v.bins) q.bins
  acks : Ints w (hdV v.acks) q.acks
  bl : Ints w (hdV v.bl) q.l.bal
  ws : Wks w (hdV v.ws) q.ws
  ms : Uts w (hdV v.ms) q.ms
theorem StR.below {w w' : World} {v : Sv} {q : Sq} (h : StR w v q) (hb : Below w.heap.size w w') : StR w' v q :=
  ⟨h.p.below hb, h.hob.below hb, h.m.below hb, h.bins.below hb, h.acks.below hb, h.bl.below hb, h.ws.below hb, h.ms.below hb⟩
/-- block B has these cells -/
abbrev Bc (t : TypeId) (w : World) (B : Nat) (l : List Value) : Prop := w.heap[B]? = some (.cells l.toArray t (0, 0))
section
variable {t : TypeId} {w w' : World} {B : Nat} {l : List Value}
theorem Bc.lt (k : Bc t w B l) : B < w.heap.size := (Array.getElem?_eq_some_iff.1 k).1
theorem Bc.below (k : Bc t w B l) (hb : Below w.heap.size w w') : Bc t w' B l := (hb.block B k.lt).trans k
theorem Bc.cell (k : Bc t w B l) (i : Nat) : w.cell? ⟨B, i, none⟩ = l[i]? := by have := cell_of_block k i; simpa using this
theorem Bc.free (k : Bc t w B l) (i : Nat) : w.frozen? ⟨B, i, none⟩ = false := unfrozen_of_block k i
theorem Bc.set (k : Bc t w B l) (i : Nat) (u : Value) : Bc t (w.setCell ⟨B, i, none⟩ u) B (l.set i u) := by
  show _ = _; rw [block_setCell k]; simp
theorem bc_new (w : World) (l : List Value) (t : TypeId) : Bc t (w.alloc (.cells l.toArray t)) w.heap.size l := heap_alloc_new w _
end
/-- a boxed parameter, and a box for what is told -/
theorem two_box (w : World) (y z : List Value) (s t : TypeId) : ∃ w1, (w.alloc (.cells y.toArray s)).alloc (.cells z.toArray t) = w1 ∧ Bc s w1 w.heap.size y ∧ Bc t w1 (w.heap.size + 1) z ∧ Below w.heap.size w w1 ∧ w1.heap.size = w.heap.size + 2 := by
  obtain ⟨w1, h1, h2, h3, h4, h5⟩ := two_new w y.toArray z.toArray s t
  exact ⟨w1, h1, h2, h3, h4, h5⟩
end Go.Proofs.YtdmbcjckgfjcaaaGreatDoor
