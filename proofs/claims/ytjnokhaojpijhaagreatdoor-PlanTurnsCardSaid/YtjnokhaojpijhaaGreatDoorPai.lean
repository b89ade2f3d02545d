import Derived.Laws.OwnMore
import Derived.OneCell
import Derived.Lib.SliceRun
import Derived.Deep.OwnRows
import Derived.Deep.RegionLaw
import Derived.Deep.Cut
import Derived.Deep.CutRange
import Derived.Test.YtjnokhaojpijhaaGreatDoorPae
/- A slice of slices of ints that the call itself has laid: each row its own block. -/
namespace Go.Proofs.YtjnokhaojpijhaaGreatDoor
open Go.RowKit
theorem flat_one (l : List Value) : l.flatMap one = l := by induction l with | nil => rfl | cons a l ih => rw [List.flatMap_cons, ih]; rfl
section
variable {T U : TypeId} {base : Nat} {w w' : World} {v : Value} {vs : List Value} {ls : List (List Int)}
/-- the same, but for who shares what -/
def OwnRows (T U : TypeId) (base : Nat) (w : World) (v : Value) (ls : List (List Int)) : Prop :=
  ∃ vs : List Value, w.ownsRow base T 1 v vs.length vs ∧ vs.length = ls.length ∧ ∀ (i : Nat) (u : Value) (l : List Int), vs[i]? = some u → ls[i]? = some l → w.ownsRow base U 1 u l.length (l.flatMap ic)
theorem OwnRows.grid (h : OwnRows T U base w v ls) : Grid w v ls := by
  obtain ⟨vs, h1, h2, h3⟩ := h
  exact ⟨vs, Sl.of_own (enc := one) (size := 1) one_len (by rw [flat_one]; exact h1), h2, fun i u l hu hl => Sl.of_own ic_len (h3 i u l hu hl)⟩
theorem OwnRows.setCell_below (h : OwnRows T U base w v ls) {a : Addr} (ha : a.block < base) (u : Value) : OwnRows T U base (w.setCell a u) v ls := by
  obtain ⟨vs, h1, h2, h3⟩ := h
  exact ⟨vs, ownsRow_setCell_below h1 ha u, h2, fun i u' l hu hl => ownsRow_setCell_below (h3 i u' l hu hl) ha u⟩
theorem OwnRows.drew (h : OwnRows T U base w v ls) : OwnRows T U base w.drew v ls := h
end
/-- a block of another type is not the row's -/
theorem own_type {w : World} {base b : Nat} {e t : TypeId} {size n : Nat} {v : Value} {xs : List Value} {cs : Array Value} {fz : Nat × Nat} (h : w.ownsRow base e size v n xs) (hb : w.heap[b]? = some (.cells cs t fz)) (hne : e ≠ t) : v.ownBlock ≠ some b := by
  intro he
  rcases h.2 with ⟨rfl, _⟩ | ⟨g, cap, cur, rfl, _, hg, _⟩
  · simp [Value.ownBlock] at he
  · simp only [Value.ownBlock, Option.some.injEq] at he
    subst he
    rw [hb] at hg
    cases hg
    exact hne rfl
theorem OwnRows.below {T U : TypeId} {base : Nat} {w w' : World} {v : Value} {ls : List (List Int)} (h : OwnRows T U base w v ls) (hb : Below w.heap.size w w') : OwnRows T U base w' v ls := by
  obtain ⟨vs, h1, h2, h3⟩ := h
  exact ⟨vs, own_below h1 hb, h2, fun i u l hu hl => own_below (h3 i u l hu hl) hb⟩
theorem OwnRows.grown {T U : TypeId} {base g : Nat} {w w' : World} {v : Value} {ls : List (List Int)} (h : OwnRows T U base w v ls) (hg : w.grownBy w' (some g)) (hlt : g < base) : OwnRows T U base w' v ls := by
  obtain ⟨vs, h1, h2, h3⟩ := h
  exact ⟨vs, h1.kept hg (.inr fun e => by have := (h1.lt g e).1; omega), h2, fun i u l hu hl => (h3 i u l hu hl).kept hg (.inr fun e => by have := ((h3 i u l hu hl).lt g e).1; omega)⟩
theorem OwnRows.le {T U : TypeId} {base b : Nat} {w : World} {v : Value} {ls : List (List Int)} (h : OwnRows T U base w v ls) (hb : b ≤ base) : OwnRows T U b w v ls := by
  obtain ⟨vs, h1, h2, h3⟩ := h
  exact ⟨vs, own_base h1 hb, h2, fun i u l hu hl => own_base (h3 i u l hu hl) hb⟩
theorem OwnRows.nil_ {T U : TypeId} {base : Nat} {w : World} : OwnRows T U base w (.slice none 0 0) [] := ⟨[], World.ownsRow_nil _ _ _ _, rfl, by simp⟩
theorem OwnRows.form {T U : TypeId} {base : Nat} {w : World} {v : Value} {ls : List (List Int)} (h : OwnRows T U base w v ls) : ∃ A c, v = .slice A ls.length c ∧ ls.length ≤ c ∧ c ≤ maxLen := h.grid.form
/-- one row more -/
theorem OwnRows.snoc {T U : TypeId} {base : Nat} {w w' : World} {v v' u : Value} {vs : List Value} {ls : List (List Int)} {l : List Int} (hTU : T ≠ U) (hl : vs.length = ls.length) (htop : w.ownsRow base T 1 v vs.length vs) (hrows : ∀ (i : Nat) (u : Value) (l : List Int), vs[i]? = some u → ls[i]? = some l → w.ownsRow base U 1 u l.length (l.flatMap ic))
    (hu : w.ownsRow base U 1 u l.length (l.flatMap ic)) (ht : w'.ownsRow base T 1 v' (vs.length + 1) (vs ++ [u])) (hg : w.grownBy w' v.ownBlock) : OwnRows T U base w' v' (ls ++ [l]) := by
  have hk : ∀ {u : Value} {l : List Int}, w.ownsRow base U 1 u l.length (l.flatMap ic) → w'.ownsRow base U 1 u l.length (l.flatMap ic) := fun {u l} h => h.kept hg (by
    rcases e : v.ownBlock with _ | b
    · cases u.ownBlock <;> simp
    · refine .inr ?_
      rcases htop.2 with ⟨rfl, _⟩ | ⟨g, cap, cur, rfl, _, hgg, _⟩
      · simp [Value.ownBlock] at e
      · simp only [Value.ownBlock, Option.some.injEq] at e
        subst e
        exact own_type h hgg (fun e => hTU e.symm))
  refine ⟨vs ++ [u], by rw [List.length_append]; exact ht, by rw [List.length_append, List.length_append, hl]; rfl, fun i u' l' hu' hl' => ?_⟩
  by_cases hi : i < vs.length
  · rw [List.getElem?_append_left hi] at hu'
    rw [List.getElem?_append_left (by rw [← hl]; exact hi)] at hl'
    exact hk (hrows i u' l' hu' hl')
  · have hlt : i < (vs ++ [u]).length := (List.getElem?_eq_some_iff.1 hu').1
    rw [List.length_append] at hlt
    obtain rfl : i = vs.length := by simp at hlt; omega
    rw [List.getElem?_concat_length] at hu'
    rw [hl, List.getElem?_concat_length] at hl'
    cases hu'; cases hl'
    exact hk hu
end Go.Proofs.YtjnokhaojpijhaaGreatDoor
/- Layer heap: copied, Put, Alloc. -/
namespace Go.Proofs.YtjnokhaojpijhaaGreatDoor
open Go.RowKit
theorem infoRow : (Tryz.prog.info? 63).map (fun i => (i.zero, i.size, i.bytes)) = some (some (.slice none 0 0), 1, 24) := by kernel_rfl
theorem infoInt : (Tryz.prog.info? 3).map (fun i => (i.zero, i.size, i.bytes)) = some (some (.int .i64 0), 1, 8) := by kernel_rfl
end Go.Proofs.YtjnokhaojpijhaaGreatDoor
/- Layer heap: Put. -/
namespace Go.Proofs.YtjnokhaojpijhaaGreatDoor
open Go.RowKit
theorem keepcHp {a b : World} {p : Addr} {v : Value} (hb : Below a.heap.size a b) (h : a.cell? p = some v) : b.cell? p = some v := by
  rw [hb.cell (World.block_lt_of_cell? _ _ h)]; exact h
theorem keepfHp {a b : World} {p : Addr} {v : Value} (hb : Below a.heap.size a b) (h : a.cell? p = some v) (hf : a.frozen? p = false) : b.frozen? p = false := by
  rw [hb.frozen (World.block_lt_of_cell? _ _ h)]; exact hf
end Go.Proofs.YtjnokhaojpijhaaGreatDoor
/- Layer heap: Put, Get, Right, as later layers meet them: what is answered bears names. -/
namespace Go.Proofs.YtjnokhaojpijhaaGreatDoor
open Go.RowKit
abbrev OwnR (base : Nat) (w : World) (v : Value) (ls : Rws) : Prop := OwnRows 63 3 base w v ls
theorem own_slice {base : Nat} {w : World} {v : Value} {ls : Rws} (h : OwnR base w v ls) : ∃ A c, v = .slice A ls.length c ∧ ls.length ≤ c ∧ c ≤ 9223372036854775807 := by
  obtain ⟨A, c, e, h1, h2⟩ := h.form
  unfold maxLen at h2
  exact ⟨A, c, e, h1, by omega⟩
theorem Right_cHp (n : Int) (v : Value) (ls : Rws) (w : World) (h : Grid w v ls) (b : Bool) (hb : rightF n ls = b) :
    Calls Tryz.prog 95 #[hv n v] w fun e w' => e = .returned (.bool b) ∧ Below w.heap.size w w' := by
  subst hb; exact Right_anyHp n v ls w h
end Go.Proofs.YtjnokhaojpijhaaGreatDoor
/- Layer heap: Alloc. -/
namespace Go.Proofs.YtjnokhaojpijhaaGreatDoor
open Go.RowKit
theorem keepg {a b : World} {p : Addr} {v : Value} {row : Option Nat} (hg : a.grownBy b row) (h : a.cell? p = some v) (hr : row ≠ some p.block) : b.cell? p = some v := by
  rw [World.cell?_of_block (w := a) (hg.block p.block (World.block_lt_of_cell? _ _ h) (fun e => hr e.symm))]; exact h
theorem keepgf {a b : World} {p : Addr} {v : Value} {row : Option Nat} (hg : a.grownBy b row) (h : a.cell? p = some v) (hf : a.frozen? p = false) (hr : row ≠ some p.block) : b.frozen? p = false := by
  rw [World.frozen?_of_block (w := a) (hg.block p.block (World.block_lt_of_cell? _ _ h) (fun e => hr e.symm))]; exact hf
end Go.Proofs.YtjnokhaojpijhaaGreatDoor
