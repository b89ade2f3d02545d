import Derived.Lib.SmallJoins
import Derived.Test.YtdmbcjckgfjcaaaGreatDoorRaf
import Derived.Test.YtdmbcjckgfjcaaaGreatDoorRai
import Derived.Test.YtdmbcjckgfjcaaaGreatDoorRae
/- Layer plan: a plan as a value, and in a box; rows of rows of ops. -/
namespace Go.Proofs.YtdmbcjckgfjcaaaGreatDoor
open Go.RowKit Go.Joins
/-- the slice of slices v reads as the list of lists of ops ls -/
def GridO (w : World) (v : Value) (ls : List (List Oq)) : Prop :=
  ∃ vs : List Value, Sl one 1 w v vs ∧ vs.length = ls.length ∧ ∀ (i : Nat) (u : Value) (l : List Oq), vs[i]? = some u → ls[i]? = some l → Oqs w u l
section
variable {w w' : World} {v : Value} {ls : List (List Oq)}
theorem GridO.below (h : GridO w v ls) (hb : Below w.heap.size w w') : GridO w' v ls := by
  obtain ⟨vs, h1, h2, h3⟩ := h
  exact ⟨vs, h1.below hb, h2, fun i u l hu hl => (h3 i u l hu hl).below hb⟩
theorem GridO.form (h : GridO w v ls) : ∃ A c, v = .slice A ls.length c ∧ ls.length ≤ c ∧ c ≤ maxLen := by
  obtain ⟨vs, ⟨A, c, rfl, h1, h2, _⟩, hl, _⟩ := h
  exact ⟨A, c, by rw [hl], by omega, h2⟩
theorem GridO.nil_ : GridO w (.slice none 0 0) [] := ⟨[], Sl.nil_, rfl, by simp⟩
theorem gridO_at {A : Option Addr} {n c k : Nat} (h : GridO w (.slice A n c) ls) (hk : k < ls.length) :
    ∃ b off u, A = some ⟨b, off, none⟩ ∧ b < w.heap.size ∧ w.cell? ⟨b, off + k, none⟩ = some u ∧ Oqs w u ls[k] := by
  obtain ⟨vs, ⟨A', c', e, h1, h2, h3⟩, hl, hi⟩ := h
  injection e with e1 e2 e3
  subst e1
  obtain ⟨b, off, rfl, hb, hc⟩ := h3 (by omega)
  have hkv : k < vs.length := by omega
  refine ⟨b, off, vs[k], rfl, hb, ?_, hi k _ _ (List.getElem?_eq_getElem hkv) (List.getElem?_eq_getElem hk)⟩
  have := hc k vs[k] (List.getElem?_eq_getElem hkv) 0 vs[k] rfl
  simpa using this
end
/-- a plan's value (an aggregate is flat: its heap's two cells lie in it) -/
abbrev planV (a b c d e f g h n : Int) (ob : Value) (s : Nat) (rg pg pk : Value) : Value :=
  .agg #[.int .i64 a, .int .i64 b, .int .i64 c, .int .i64 d, .int .i64 e, .int .i64 f, .int .i64 g, .int .i64 h, .int .i64 n, ob, .int .u64 (s : Int), rg, pg, pk]
abbrev planC (a b c d e f g h n : Int) (ob : Value) (s : Nat) (rg pg pk : Value) : Array Value :=
  #[.int .i64 a, .int .i64 b, .int .i64 c, .int .i64 d, .int .i64 e, .int .i64 f, .int .i64 g, .int .i64 h, .int .i64 n, ob, .int .u64 (s : Int), rg, pg, pk]
/-- what its slices read as -/
structure PlanR (w : World) (ob rg pg pk : Value) (p : Pq) : Prop where
  ob : Grid w ob p.ob
  rg : Grid w rg p.rg
  pg : GridO w pg p.pg
  pk : Picks w pk p.pk
theorem PlanR.below {w w' : World} {ob rg pg pk : Value} {p : Pq} (h : PlanR w ob rg pg pk p) (hb : Below w.heap.size w w') : PlanR w' ob rg pg pk p := ⟨h.ob.below hb, h.rg.below hb, h.pg.below hb, h.pk.below hb⟩
/-- block B has a plan -/
structure Bp (t : TypeId) (w : World) (B : Nat) (a b c d e f g h n : Int) (ob : Value) (s : Nat) (rg pg pk : Value) : Prop where
  blk : w.heap[B]? = some (.cells (planC a b c d e f g h n ob s rg pg pk) t)
section
variable {t : TypeId} {w w' : World} {B : Nat} {a b c d e f g h n : Int} {ob : Value} {s : Nat} {rg pg pk : Value}
theorem Bp.lt (k : Bp t w B a b c d e f g h n ob s rg pg pk) : B < w.heap.size := (Array.getElem?_eq_some_iff.1 k.blk).1
theorem Bp.below (k : Bp t w B a b c d e f g h n ob s rg pg pk) (hb : Below w.heap.size w w') : Bp t w' B a b c d e f g h n ob s rg pg pk := ⟨(hb.block B k.lt).trans k.blk⟩
theorem Bp.drew (k : Bp t w B a b c d e f g h n ob s rg pg pk) : Bp t w.drew B a b c d e f g h n ob s rg pg pk := ⟨k.blk⟩
theorem Bp.all (k : Bp t w B a b c d e f g h n ob s rg pg pk) : w.cell? ⟨B, 0, none⟩ = some (.int .i64 a) ∧ w.cell? ⟨B, 1, none⟩ = some (.int .i64 b) ∧ w.cell? ⟨B, 2, none⟩ = some (.int .i64 c) ∧ w.cell? ⟨B, 3, none⟩ = some (.int .i64 d) ∧
    w.cell? ⟨B, 4, none⟩ = some (.int .i64 e) ∧ w.cell? ⟨B, 5, none⟩ = some (.int .i64 f) ∧ w.cell? ⟨B, 6, none⟩ = some (.int .i64 g) ∧ w.cell? ⟨B, 7, none⟩ = some (.int .i64 h) :=
  ⟨cell_of_block k.blk 0, cell_of_block k.blk 1, cell_of_block k.blk 2, cell_of_block k.blk 3, cell_of_block k.blk 4, cell_of_block k.blk 5, cell_of_block k.blk 6, cell_of_block k.blk 7⟩
theorem Bp.all2 (k : Bp t w B a b c d e f g h n ob s rg pg pk) : w.cell? ⟨B, 8, none⟩ = some (.int .i64 n) ∧ w.cell? ⟨B, 9, none⟩ = some ob ∧ w.cell? ⟨B, 10, none⟩ = some (.int .u64 (s : Int)) ∧ w.cell? ⟨B, 11, none⟩ = some rg ∧
    w.cell? ⟨B, 12, none⟩ = some pg ∧ w.cell? ⟨B, 13, none⟩ = some pk :=
  ⟨cell_of_block k.blk 8, cell_of_block k.blk 9, cell_of_block k.blk 10, cell_of_block k.blk 11, cell_of_block k.blk 12, cell_of_block k.blk 13⟩
end
theorem bp_new (w : World) (a b c d e f g h n : Int) (ob : Value) (s : Nat) (rg pg pk : Value) (t : TypeId) : ∃ w1, w.alloc (.cells #[.int .i64 a, .int .i64 b, .int .i64 c, .int .i64 d, .int .i64 e, .int .i64 f, .int .i64 g, .int .i64 h, .int .i64 n, ob, .int .u64 (s : Int), rg, pg, pk] t) = w1 ∧
    Below w.heap.size w w1 ∧ w1.heap.size = w.heap.size + 1 ∧ Bp t w1 w.heap.size a b c d e f g h n ob s rg pg pk :=
  ⟨_, rfl, (Below.refl _ _).alloc (Nat.le_refl _) _, by simp, ⟨heap_alloc_new w _⟩⟩
end Go.Proofs.YtdmbcjckgfjcaaaGreatDoor
/- Layer plan: sums and unions, one by one, as plain facts. -/
namespace Go.Proofs.YtdmbcjckgfjcaaaGreatDoor
open Go.RowKit
/-- what the first i registers' rows make grey -/
def grF (s : Nat) (rg : Rws) (i : Nat) : Nat := (rg.take i).foldl (fun s l => s ||| ofF l) s
theorem grey_take {s : Nat} {rg : Rws} {i : Nat} (h : i < rg.length) : grF s rg (i + 1) = grF s rg i ||| ofF rg[i] := by
  unfold grF
  rw [List.take_succ_eq_append_getElem h, List.foldl_append]; rfl
theorem grF_lt {s : Nat} (hs : s < 18446744073709551616) (rg : Rws) (i : Nat) : grF s rg i < 18446744073709551616 := grey_fold_lt _ hs
end Go.Proofs.YtdmbcjckgfjcaaaGreatDoor
