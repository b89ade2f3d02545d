/- Layer deque: a machine as a value; one that came in; the box of a machine that turns. -/
import Derived.Test.YtpffknlbffnafaaMemUse
import Derived.Test.YtpffknlbffnafaaDequeP
import Derived.Lib.SmallJoins
namespace Go.Proofs.Ytpffknlbffnafaa
open Go.RowKit Go.Joins Go.WideShapes Go.ChangeShapes Go.ChangeAt Go.Deep

theorem open_agg8 {H : Type} {enc : TypeId × Value → H} {P : Program} {w : World} {base : Nat} {spare : Nat → Bool} {held : Bool} {r : Reach} {b0 : Nat} {t : TypeId} {f0 f1 f2 f3 f4 f5 f6 f7 : Field} {v : Value} {d : DataW H} {p : List MemPlace} (hs : P.underlying t = some (.struct #[f0, f1, f2, f3, f4, f5, f6, f7])) (hone : oneCellFields P #[f0, f1, f2, f3, f4, f5, f6, f7] = true) (hC : P.cellsOf t = 8)
    (hv : Value.okWide P w r b0 t v) (h : DataW.Trod enc P w base spare held t v d p) :
    ∃ (v0 v1 v2 v3 v4 v5 v6 v7 : Value) (y0 y1 y2 y3 y4 y5 y6 y7 : DataW H × List MemPlace) (n : Nat), v = .agg #[v0, v1, v2, v3, v4, v5, v6, v7] ∧ d = .agg [y0.1, y1.1, y2.1, y3.1, y4.1, y5.1, y6.1, y7.1] ∧ p = y0.2 ++ (y1.2 ++ (y2.2 ++ (y3.2 ++ (y4.2 ++ (y5.2 ++ (y6.2 ++ (y7.2))))))) ∧
      DataW.trod enc P w base spare held n f0.type [v0] = some y0 ∧ DataW.trod enc P w base spare held n f1.type [v1] = some y1 ∧ DataW.trod enc P w base spare held n f2.type [v2] = some y2 ∧ DataW.trod enc P w base spare held n f3.type [v3] = some y3 ∧ DataW.trod enc P w base spare held n f4.type [v4] = some y4 ∧ DataW.trod enc P w base spare held n f5.type [v5] = some y5 ∧ DataW.trod enc P w base spare held n f6.type [v6] = some y6 ∧ DataW.trod enc P w base spare held n f7.type [v7] = some y7 := by
  obtain ⟨cs, rfl, hsz⟩ := okWide_struct hs hv
  obtain ⟨l⟩ := cs
  match l, hsz.trans hC with
  | [c0, c1, c2, c3, c4, c5, c6, c7], _ =>
    obtain ⟨fuel, hf⟩ := h
    obtain ⟨xs, n, _, hx, _, hlen, hg⟩ := DataW.trod_struct hs hf
    obtain ⟨o0, k0⟩ := hone_of hone 0 f0 rfl
    obtain ⟨o1, k1⟩ := hone_of hone 1 f1 rfl
    obtain ⟨o2, k2⟩ := hone_of hone 2 f2 rfl
    obtain ⟨o3, k3⟩ := hone_of hone 3 f3 rfl
    obtain ⟨o4, k4⟩ := hone_of hone 4 f4 rfl
    obtain ⟨o5, k5⟩ := hone_of hone 5 f5 rfl
    obtain ⟨o6, k6⟩ := hone_of hone 6 f6 rfl
    obtain ⟨o7, k7⟩ := hone_of hone 7 f7 rfl
    match xs, hlen with
    | [y0, y1, y2, y3, y4, y5, y6, y7], _ =>
      simp only [Prod.mk.injEq] at hx
      exact ⟨c0, c1, c2, c3, c4, c5, c6, c7, y0, y1, y2, y3, y4, y5, y6, y7, n, rfl, by simpa using hx.1, by simpa using hx.2, by simpa [Value.cells, o0, k0] using hg 0 f0 rfl, by simpa [Value.cells, o1, k1] using hg 1 f1 rfl, by simpa [Value.cells, o2, k2] using hg 2 f2 rfl, by simpa [Value.cells, o3, k3] using hg 3 f3 rfl, by simpa [Value.cells, o4, k4] using hg 4 f4 rfl, by simpa [Value.cells, o5, k5] using hg 5 f5 rfl, by simpa [Value.cells, o6, k6] using hg 6 f6 rfl, by simpa [Value.cells, o7, k7] using hg 7 f7 rfl⟩

/-- a machine, as a value -/
abbrev mv (d : Mc) : Value := .agg #[.int .i64 d.kind, .int .i64 d.pc, .int .i64 d.base, .int .i64 d.cap, .int .u64 d.b, .int .u64 d.t, .int .i64 d.x, .int .i64 d.out]
abbrev mvv (k p s c b t x u : Int) : Value := .agg #[.int .i64 k, .int .i64 p, .int .i64 s, .int .i64 c, .int .u64 b, .int .u64 t, .int .i64 x, .int .i64 u]
def I6 (x : Int) : Prop := -9223372036854775808 ≤ x ∧ x ≤ 9223372036854775807
structure McU (d : Mc) : Prop where
  kind : I6 d.kind
  pc : I6 d.pc
  base : I6 d.base
  cap : I6 d.cap
  b : U d.b
  t : U d.t
  x : I6 d.x
  out : I6 d.out
/-- the cells of a machine that turns -/
def tc (d : Mc) (v : Value) : Array Value := #[.int .i64 d.kind, .int .i64 d.pc, .int .i64 d.base, .int .i64 d.cap, .int .u64 d.b, .int .u64 d.t, .int .i64 d.x, .int .i64 d.out, v]
theorem cells_block {w w' : World} {v : Value} {m : List Int} (h : Cells w v m) (hs : w.heap.size ≤ w'.heap.size) (hk : 0 < m.length → ∀ x, v.ownBlock = some x → x < w.heap.size → w'.heap[x]? = w.heap[x]?) : Cells w' v m := by
  obtain ⟨A, c, rfl, h1, h2, h3⟩ := h
  refine ⟨A, c, rfl, h1, h2, fun hl => ?_⟩
  obtain ⟨b, off, rfl, hb, hc⟩ := h3 hl
  exact ⟨b, off, rfl, by omega, fun i p hp j u hu => (World.cell?_of_block (w := w) (hk hl b rfl hb)).trans (hc i p hp j u hu)⟩
theorem cells_grown {w w' : World} {v : Value} {m : List Int} {B : Nat} (h : Cells w v m) (hg : w.grownBy w' (some B)) (hne : 0 < m.length → ∀ x, v.ownBlock = some x → x ≠ B) : Cells w' v m :=
  cells_block h hg.size fun h0 x hx hlt => hg.block x hlt (by intro e; injection e with e; exact hne h0 x hx e)
theorem grown_set (w : World) (B i : Nat) (x : Value) : w.grownBy (w.setCell ⟨B, i, none⟩ x) (some B) :=
  ⟨rfl, rfl, rfl, by simp [World.setCell], fun k _ hk => Below.heap_setCell w ⟨B, i, none⟩ x k (by intro e; exact hk (by rw [e]))⟩
section
variable {w w' : World} {B : Nat} {d : Mc} {v v' : Value} {m m' : List Int}
end
/-- what a method of it leaves -/
structure Gn (w : World) (B : Nat) (v' : Value) (w' : World) : Prop where
  g : w.grownBy w' (some B)
  new : ∀ x, v'.ownBlock = some x → w.heap.size ≤ x
theorem Gn.set {w w' : World} {B : Nat} {v' : Value} (h : Gn w B v' w') (i : Nat) (x : Value) : Gn w B v' (w'.setCell ⟨B, i, none⟩ x) := ⟨grown_trans h.g (grown_set w' B i x), h.new⟩
theorem Gn.drewN {w w' : World} {B : Nat} {v' : Value} (h : Gn w B v' w') (n : Nat) : Gn w B v' (w'.drewN n) := ⟨⟨h.g.os, h.g.tape, h.g.output, h.g.size, h.g.block⟩, h.new⟩
theorem Gn.undrew {w w' : World} {B : Nat} {v' : Value} (h : Gn w.drew B v' w') : Gn w B v' w' := ⟨⟨h.g.os, h.g.tape, h.g.output, h.g.size, h.g.block⟩, h.new⟩
end Go.Proofs.Ytpffknlbffnafaa
