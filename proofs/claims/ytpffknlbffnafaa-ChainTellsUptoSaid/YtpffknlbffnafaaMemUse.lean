/- Layer mem: each call's contract, with named values. -/
import Derived.Test.YtpffknlbffnafaaMemAll
namespace Go.Proofs.Ytpffknlbffnafaa
open Go.RowKit

theorem Do_c (v : Value) (m : List Int) (k t a b : Int) (w : World) (h : Cells w v m) (hbig : m.length * 8 ≤ 140737488351232) (r : List Int) (x : Int) (d : Bool) (hr : mF m ⟨k, t, a, b⟩ = r) (hx : vF m ⟨k, t, a, b⟩ = x) (hd : okF m ⟨k, t, a, b⟩ = d) (n : Nat) (hn : r.length = n) :
    Calls Try.prog 48 #[v, ov k t a b] w fun e w' => ∃ A c, e = .returned (.tuple #[.slice A n c, .int .u64 x, .bool d]) ∧ (n ≤ c ∧ c ≤ 2 ^ 63 - 1) ∧ Cells w' (.slice A n c) r ∧ Below w.heap.size w w' := by
  subst hn hr hx hd
  refine (Do_any v m k t a b w h hbig).mono ?_
  rintro e w' ⟨v', rfl, ho, hb⟩
  obtain ⟨A, c, rfl, h1, h2⟩ := own_form ho
  exact ⟨A, c, rfl, ⟨h1, by unfold maxLen at h2; omega⟩, ho.cells, hb⟩
theorem All_c (v lv : Value) (m : List Int) (l : List Dd) (w : World) (h : Cells w v m) (hl : Dds w lv l) (hbig : m.length * 8 ≤ 140737488351232) (hbl : l.length * 8 ≤ 140737488355328) (r hd : List Int) (n : Int) (hr : allM m l = r) (hh : allV m l = hd) (hn : ((allN m l : Nat) : Int) = n) (p q : Nat) (hp : r.length = p) (hq : hd.length = q) :
    Calls Try.prog 30 #[v, lv] w fun e w' => ∃ A c H d, e = .returned (.tuple #[.slice A p c, .slice H q d, .int .i64 n]) ∧ (p ≤ c ∧ c ≤ 2 ^ 63 - 1) ∧ (q ≤ d ∧ d ≤ 2 ^ 63 - 1) ∧ Cells w' (.slice A p c) r ∧ Cells w' (.slice H q d) hd ∧ Below w.heap.size w w' := by
  subst hp hq hr hh hn
  refine (All_any v lv m l w h hl hbig hbl).mono ?_
  rintro e w' ⟨v', h', rfl, ho, hd, hb⟩
  obtain ⟨A, c, rfl, h1, h2⟩ := own_form ho
  obtain ⟨H, d, rfl, h3, h4⟩ := own_form hd
  exact ⟨A, c, H, d, rfl, ⟨h1, by unfold maxLen at h2; omega⟩, ⟨h3, by unfold maxLen at h4; omega⟩, ho.cells, hd.cells, hb⟩
theorem undrew {w w' : World} (h : Below w.drew.heap.size w.drew w') : Below w.heap.size w w' := ⟨h.os, h.tape, h.output, h.size, h.block⟩
theorem cells_drew {w : World} {v : Value} {l : List Int} (h : Cells w v l) : Cells w.drew v l := h
theorem cells_two {w : World} {A : Option Addr} {c : Nat} {x y : Int} (h : Cells w (.slice A 2 c) [x, y]) : ∃ b off, A = some ⟨b, off, none⟩ ∧ w.cell? ⟨b, off, none⟩ = some (.int .u64 x) ∧ w.cell? ⟨b, off + 1, none⟩ = some (.int .u64 y) := by
  obtain ⟨b, off, rfl, -, h0⟩ := cells_at h (k := 0) (by simp)
  obtain ⟨b', off', e, -, h1⟩ := cells_at h (k := 1) (by simp)
  injection e with e; injection e with e1 e2; subst e1; subst e2
  exact ⟨b, off, rfl, h0, h1⟩
theorem cells_three {w : World} {A : Option Addr} {c : Nat} {x y z : Int} (h : Cells w (.slice A 3 c) [x, y, z]) : ∃ b off, A = some ⟨b, off, none⟩ ∧ w.cell? ⟨b, off, none⟩ = some (.int .u64 x) ∧ w.cell? ⟨b, off + 1, none⟩ = some (.int .u64 y) ∧ w.cell? ⟨b, off + 2, none⟩ = some (.int .u64 z) := by
  obtain ⟨b, off, rfl, -, h0⟩ := cells_at h (k := 0) (by simp)
  obtain ⟨b', off', e, -, h1⟩ := cells_at h (k := 1) (by simp)
  injection e with e; injection e with e1 e2; subst e1; subst e2
  obtain ⟨b'', off'', e, -, h2⟩ := cells_at h (k := 2) (by simp)
  injection e with e; injection e with e1 e2; subst e1; subst e2
  exact ⟨b, off, rfl, h0, h1, h2⟩
/-- cells that are laid in a literal -/
theorem lit_cells {w : World} (l : List Int) (n : Nat) (hn : l.length = n) (hl : n ≤ maxLen) : ∃ w1, w.alloc (.cells (l.flatMap uc).toArray 24) = w1 ∧ Below w.heap.size w w1 ∧ Cells w1 (.slice (some ⟨w.heap.size, 0, none⟩) n n) l := by
  subst hn
  exact ⟨_, rfl, bal _ _, Sl.of_own uc_len (own_new w w.heap.size (l.flatMap uc) 24 1 l.length (Nat.le_refl _) (flatMap_len uc_len l) hl)⟩
theorem lit_deeds {w : World} (l : List Dd) (n : Nat) (hn : l.length = n) (hl : n ≤ maxLen) : ∃ w1, w.alloc (.cells (l.flatMap oc).toArray 68) = w1 ∧ Below w.heap.size w w1 ∧ Dds w1 (.slice (some ⟨w.heap.size, 0, none⟩) n n) l := by
  subst hn
  exact ⟨_, rfl, bal _ _, Sl.of_own oc_len (own_new w w.heap.size (l.flatMap oc) 68 4 l.length (Nat.le_refl _) (flatMap_len oc_len l) hl)⟩
end Go.Proofs.Ytpffknlbffnafaa
