/- Layer chain, the document's answer: how its steps end. -/
import Derived.Test.YtpffknlbffnafaaRefChainA
namespace Go.Proofs.Ytpffknlbffnafaa.ch
open Go.RowKit

def Same_or_new (w : World) (v v' : Value) : Prop := v' = v ∨ ∀ y, v'.ownBlock = some y → w.heap.size ≤ y
def REnd (v : Value) (w : World) (m' : List Int) (d' : Cm) (e : Ending) (w' : World) : Prop := ∃ A c, e = .returned (.tuple #[.slice A m'.length c, mv d']) ∧ (m'.length ≤ c ∧ c ≤ 9223372036854775807) ∧ Cells w' (.slice A m'.length c) m' ∧ Same_or_new w v (.slice A m'.length c) ∧ Below w.heap.size w w'
theorem in_ne {w : World} {A : Option Addr} {n c : Nat} {m : List Int} (h : Cells w (.slice A n c) m) : 0 < m.length → ∀ y, (Value.slice A n c).ownBlock = some y → y < w.heap.size := fun h0 y hy => by
  obtain ⟨b0, o0, rfl, hlt, -⟩ := cells_at h h0
  simp only [Value.ownBlock, Option.some.injEq] at hy
  omega
theorem rend_fin {v : Value} {w w2 w9 : World} {A : Option Addr} {L n : Nat} {m' : List Int} {k p s c b t x u : Int} (hC : Cells w2 (.slice A L n) m') (hL : m'.length = L) (hn : L ≤ n ∧ n ≤ 9223372036854775807) (hne : 0 < L → ∀ y, (Value.slice A L n).ownBlock = some y → y ≠ w.heap.size ∧ y ≠ w.heap.size + 1)
    (hnew : Same_or_new w v (.slice A L n)) (hfar : ∀ y, y ≠ w.heap.size → w9.heap[y]? = w2.heap[y]?) (hsz : w9.heap.size = w2.heap.size) (hb9 : Below w.heap.size w w9) :
    REnd v w m' ⟨k, p, s, c, b, t, x, u⟩ (.returned (.tuple #[.slice A L n, mvv k p s c b t x u])) (set8 w9 (w.heap.size + 1) k p s c b t x u).drew := by
  subst hL
  refine ⟨A, n, rfl, hn, cells_drew ?_, hnew, (set8_below hb9 (by omega)).drew⟩
  exact cells_block hC (by rw [set8_size, hsz]; exact Nat.le_refl _) fun h0 y hy _ => (set8_far y (hne h0 y hy).2).trans (hfar y (hne h0 y hy).1)
/-- the same where no order was drawn behind the last call -/
theorem rend_fin0 {v : Value} {w w2 : World} {A : Option Addr} {L n : Nat} {m' : List Int} {k p s c b t x u : Int} (hC : Cells w2 (.slice A L n) m') (hL : m'.length = L) (hn : L ≤ n ∧ n ≤ 9223372036854775807) (hne : 0 < L → ∀ y, (Value.slice A L n).ownBlock = some y → y ≠ w.heap.size ∧ y ≠ w.heap.size + 1)
    (hnew : Same_or_new w v (.slice A L n)) (hb9 : Below w.heap.size w w2) :
    REnd v w m' ⟨k, p, s, c, b, t, x, u⟩ (.returned (.tuple #[.slice A L n, mvv k p s c b t x u])) (set8 w2 (w.heap.size + 1) k p s c b t x u) := by
  subst hL
  refine ⟨A, n, rfl, hn, ?_, hnew, set8_below hb9 (by omega)⟩
  exact cells_block hC (by rw [set8_size]; exact Nat.le_refl _) fun h0 y hy _ => set8_far y (hne h0 y hy).2
theorem put_new {w w1 : World} {A A1 : Option Addr} {L c0 c1 : Nat} (hn : Value.slice A1 L c1 = Value.slice A L c0 ∨ ∀ y, (Value.slice A1 L c1).ownBlock = some y → w1.heap.size ≤ y) (hlt : w.heap.size + 1 < w1.heap.size) : Same_or_new w (.slice A L c0) (.slice A1 L c1) := by
  rcases hn with e | hn
  · exact .inl e
  · exact .inr fun y hy => by have := hn y hy; omega
theorem put_ne {w w1 : World} {A A1 : Option Addr} {L c0 c1 : Nat} (h0 : 0 < L → ∀ y, (Value.slice A L c0).ownBlock = some y → y < w.heap.size) (hn : Value.slice A1 L c1 = Value.slice A L c0 ∨ ∀ y, (Value.slice A1 L c1).ownBlock = some y → w1.heap.size ≤ y) (hlt : w.heap.size + 1 < w1.heap.size) :
    0 < L → ∀ y, (Value.slice A1 L c1).ownBlock = some y → y ≠ w.heap.size ∧ y ≠ w.heap.size + 1 := fun hL y hy => by
  rcases hn with e | hn
  · rw [e] at hy
    have := h0 hL y hy
    omega
  · have := hn y hy
    omega
theorem below_cell {n : Nat} {w w' : World} (h : Below n w w') (k : Nat) (v : Value) : Below n w (w'.setCell ⟨n, k, none⟩ v) := Below.setCell (p := ⟨n, k, none⟩) h (Nat.le_refl _) v
end Go.Proofs.Ytpffknlbffnafaa.ch
