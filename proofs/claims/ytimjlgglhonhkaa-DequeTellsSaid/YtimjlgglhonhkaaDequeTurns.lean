/- Layer deque: the list of what is done, by its kind. -/
import Derived.Test.YtimjlgglhonhkaaDequeSee
namespace Go.Proofs.Ytimjlgglhonhkaa
open Go.RowKit

/-- a list of functions, as cells -/
def fc (f : FuncId) : List Value := [.func (.func f) #[] #[]]
theorem fc_len (f : FuncId) : (fc f).length = 1 := rfl
def tl (k : Int) : List FuncId :=
  if k = 1 then [65, 66, 67, 68]
  else if k = 2 then [65, 69, 70, 71, 72, 73, 74]
  else if k = 3 then [75, 76, 77, 78]
  else []
abbrev Fns (w : World) (v : Value) (l : List FuncId) : Prop := Sl fc 1 w v l
def TurnsEnd (w : World) (l : List FuncId) (e : Ending) (w' : World) : Prop := ∃ A c, e = .returned (.slice A l.length c) ∧ l.length ≤ c ∧ c ≤ 9223372036854775807 ∧ Fns w' (.slice A l.length c) l ∧ Below w.heap.size w w'
theorem turns_lit {w : World} (l : List FuncId) (n : Nat) (hn : l.length = n) (h7 : n ≤ 7) : TurnsEnd w l (.returned (.slice (some ⟨w.heap.size, 0, none⟩) n n)) (w.alloc (.cells (l.flatMap fc).toArray 84)) := by
  subst hn
  exact ⟨_, _, rfl, Nat.le_refl _, by omega, Sl.of_own fc_len (own_new w w.heap.size (l.flatMap fc) _ 1 l.length (Nat.le_refl _) (flatMap_len fc_len l) (by unfold maxLen; omega)), bal _ _⟩

set_option maxRecDepth 100000 in
set_option maxHeartbeats 2000000 in
theorem turns_any (k : Int) (w : World) : Calls Try.prog 44 #[.int .i64 k] w (TurnsEnd w (tl k)) := by
  by_cases h1 : k = 1
  · subst h1
    go_enter Try.func44, Try.ntmps44
    go_wp2
    go_ret
    exact turns_lit (tl 1) 4 rfl (by decide)
  · by_cases h2 : k = 2
    · subst h2
      go_enter Try.func44, Try.ntmps44
      go_wp2
      go_ret
      exact turns_lit (tl 2) 7 rfl (by decide)
    · by_cases h3 : k = 3
      · subst h3
        go_enter Try.func44, Try.ntmps44
        go_wp2
        go_ret
        exact turns_lit (tl 3) 4 rfl (by decide)
      · have e0 : tl k = [] := by unfold tl; rw [if_neg h1, if_neg h2, if_neg h3]
        rw [e0]
        have q1 : (k == 1) = false := by rw [beq_eq_false_iff_ne]; exact h1
        have q2 : (k == 2) = false := by rw [beq_eq_false_iff_ne]; exact h2
        have q3 : (k == 3) = false := by rw [beq_eq_false_iff_ne]; exact h3
        clear h1 h2 h3 e0
        go_enter Try.func44, Try.ntmps44
        go_wp2
        go_ret
        exact ⟨none, 0, rfl, Nat.le_refl _, by omega, Sl.nil_, Below.refl _ _⟩

/-! a machine in a box -/
def mcs (d : Mc) : Array Value := #[.int .i64 d.kind, .int .i64 d.pc, .int .i64 d.base, .int .i64 d.cap, .int .u64 d.b, .int .u64 d.t, .int .i64 d.x, .int .i64 d.out]
structure Mb (w : World) (B : Nat) (d : Mc) : Prop where
  blk : w.heap[B]? = some (.cells (mcs d) 26)
section
variable {w w' : World} {B : Nat} {d : Mc}
theorem Mb.lt (h : Mb w B d) : B < w.heap.size := (Array.getElem?_eq_some_iff.1 h.blk).1
theorem Mb.cell (h : Mb w B d) (i : Nat) : w.cell? ⟨B, i, none⟩ = (mcs d)[i]? := Joins.cell_of_block h.blk i
theorem Mb.unf (h : Mb w B d) (i : Nat) : w.frozen? ⟨B, i, none⟩ = false := Joins.unfrozen_of_block h.blk i
theorem Mb.below (h : Mb w B d) (hb : Below w.heap.size w w') : Mb w' B d := ⟨(hb.block B h.lt).trans h.blk⟩
end
section
variable {w : World} {B : Nat} {k p s c b t x u : Int}
theorem Mb.cells (h : Mb w B ⟨k, p, s, c, b, t, x, u⟩) : w.cell? ⟨B, 0, none⟩ = some (.int .i64 k) ∧ w.cell? ⟨B, 1, none⟩ = some (.int .i64 p) ∧ w.cell? ⟨B, 2, none⟩ = some (.int .i64 s) ∧ w.cell? ⟨B, 3, none⟩ = some (.int .i64 c) ∧
    w.cell? ⟨B, 4, none⟩ = some (.int .u64 b) ∧ w.cell? ⟨B, 5, none⟩ = some (.int .u64 t) ∧ w.cell? ⟨B, 6, none⟩ = some (.int .i64 x) ∧ w.cell? ⟨B, 7, none⟩ = some (.int .i64 u) :=
  ⟨h.cell 0, h.cell 1, h.cell 2, h.cell 3, h.cell 4, h.cell 5, h.cell 6, h.cell 7⟩
theorem Mb.unfs {d : Mc} (h : Mb w B d) : w.frozen? ⟨B, 0, none⟩ = false ∧ w.frozen? ⟨B, 1, none⟩ = false ∧ w.frozen? ⟨B, 2, none⟩ = false ∧ w.frozen? ⟨B, 3, none⟩ = false ∧
    w.frozen? ⟨B, 4, none⟩ = false ∧ w.frozen? ⟨B, 5, none⟩ = false ∧ w.frozen? ⟨B, 6, none⟩ = false ∧ w.frozen? ⟨B, 7, none⟩ = false :=
  ⟨h.unf 0, h.unf 1, h.unf 2, h.unf 3, h.unf 4, h.unf 5, h.unf 6, h.unf 7⟩
end
theorem mb_new (w : World) (d : Mc) : Mb (w.alloc (.cells (mcs d) 26)) w.heap.size d := ⟨heap_alloc_new w _⟩
/-- a machine that came in, and the box of one that goes out -/
theorem box_two (w : World) (k p s c b t x u : Int) : ∃ w1, (w.alloc (.cells #[.int .i64 k, .int .i64 p, .int .i64 s, .int .i64 c, .int .u64 b, .int .u64 t, .int .i64 x, .int .i64 u] 26)).alloc (.cells #[.int .i64 0, .int .i64 0, .int .i64 0, .int .i64 0, .int .u64 0, .int .u64 0, .int .i64 0, .int .i64 0] 26) = w1 ∧
    Below w.heap.size w w1 ∧ w1.heap.size = w.heap.size + 1 + 1 ∧ Mb w1 w.heap.size ⟨k, p, s, c, b, t, x, u⟩ ∧ Mb w1 (w.heap.size + 1) ⟨0, 0, 0, 0, 0, 0, 0, 0⟩ := by
  refine ⟨_, rfl, bcall (bal _ _) (bal _ _), by simp, (mb_new w ⟨k, p, s, c, b, t, x, u⟩).below (bal _ _), ?_⟩
  have := mb_new (w.alloc (.cells (mcs ⟨k, p, s, c, b, t, x, u⟩) 26)) ⟨0, 0, 0, 0, 0, 0, 0, 0⟩
  simp at this
  exact this
theorem below_set8 {n : Nat} {a w : World} {R : Nat} (h : Below n a w) (hR : n ≤ R) (x0 x1 x2 x3 x4 x5 x6 x7 : Value) :
    Below n a ((((((((w.setCell ⟨R, 0, none⟩ x0).setCell ⟨R, 1, none⟩ x1).setCell ⟨R, 2, none⟩ x2).setCell ⟨R, 3, none⟩ x3).setCell ⟨R, 4, none⟩ x4).setCell ⟨R, 5, none⟩ x5).setCell ⟨R, 6, none⟩ x6).setCell ⟨R, 7, none⟩ x7) :=
  (((((((h.setCell (p := ⟨R, 0, none⟩) hR x0).setCell (p := ⟨R, 1, none⟩) hR x1).setCell (p := ⟨R, 2, none⟩) hR x2).setCell (p := ⟨R, 3, none⟩) hR x3).setCell (p := ⟨R, 4, none⟩) hR x4).setCell (p := ⟨R, 5, none⟩) hR x5).setCell (p := ⟨R, 6, none⟩) hR x6).setCell (p := ⟨R, 7, none⟩) hR x7
end Go.Proofs.Ytimjlgglhonhkaa
