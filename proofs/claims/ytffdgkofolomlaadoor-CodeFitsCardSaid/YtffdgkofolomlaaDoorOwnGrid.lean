/- A slice of slices of ints that the call itself has laid: each row its own block. -/
import Derived.Test.YtffdgkofolomlaaDoorGrid
import Derived.Laws.OwnMore
import Derived.OneCell
namespace Go.Proofs.YtffdgkofolomlaaDoor
open Go.RowKit

theorem flat_one (l : List Value) : l.flatMap one = l := by induction l with | nil => rfl | cons a l ih => rw [List.flatMap_cons, ih]; rfl
theorem ic_set (l : List Int) (s : Nat) (x : Int) : (l.set s x).flatMap ic = (l.flatMap ic).set s (.int .i64 x) := by
  rw [← ic_map, ← ic_map, List.map_set]
theorem ic_one (l : List Int) : ∀ u ∈ l.flatMap ic, u.oneCell' = true := by
  intro u hu; rw [← ic_map] at hu; obtain ⟨a, _, rfl⟩ := List.mem_map.1 hu; rfl
theorem ic_flen (l : List Int) : (l.flatMap ic).length = l.length := by rw [← ic_map, List.length_map]
/-- T: the rows' type, U: their elements' -/
structure OwnGrid (T U : TypeId) (base : Nat) (w : World) (v : Value) (vs : List Value) (ls : List (List Int)) : Prop where
  top : w.ownsRow base T 1 v vs.length vs
  len : vs.length = ls.length
  rows : ∀ (i : Nat) (u : Value) (l : List Int), vs[i]? = some u → ls[i]? = some l → w.ownsRow base U 1 u l.length (l.flatMap ic)
  apart : ∀ (i j : Nat) (u u' : Value) (g : Nat), i ≠ j → vs[i]? = some u → vs[j]? = some u' → u.ownBlock = some g → u'.ownBlock ≠ some g
  off : ∀ (i : Nat) (u : Value) (g : Nat), vs[i]? = some u → u.ownBlock = some g → v.ownBlock ≠ some g
section
variable {T U : TypeId} {base : Nat} {w w' : World} {v : Value} {vs : List Value} {ls : List (List Int)}
theorem OwnGrid.grid (h : OwnGrid T U base w v vs ls) : Grid w v ls :=
  ⟨vs, Sl.of_own (enc := one) (size := 1) one_len (by rw [flat_one]; exact h.top), h.len, fun i u l hu hl => Sl.of_own ic_len (h.rows i u l hu hl)⟩
theorem OwnGrid.below (h : OwnGrid T U base w v vs ls) (hb : Below w.heap.size w w') : OwnGrid T U base w' v vs ls :=
  ⟨own_below h.top hb, h.len, fun i u l hu hl => own_below (h.rows i u l hu hl) hb, h.apart, h.off⟩
theorem OwnGrid.alloc (h : OwnGrid T U base w v vs ls) (o : Obj) : OwnGrid T U base (w.alloc o) v vs ls := h.below ((Below.refl _ _).alloc (Nat.le_refl _) _)
/-- row i, written out -/
theorem OwnGrid.row (h : OwnGrid T U base w v vs ls) {i : Nat} (hi : i < ls.length) (hp : 0 < ls[i].length) :
    ∃ A n c g cap, v = .slice (some ⟨A, 0, none⟩) n c ∧ n = ls.length ∧ w.cell? ⟨A, i, none⟩ = some (.slice (some ⟨g, 0, none⟩) ls[i].length cap) ∧ vs[i]? = some (.slice (some ⟨g, 0, none⟩) ls[i].length cap) ∧ base ≤ g ∧ g < w.heap.size ∧ base ≤ A ∧ A < w.heap.size ∧ A ≠ g := by
  have hiv : i < vs.length := by rw [h.len]; exact hi
  have hr := h.rows i vs[i] ls[i] (List.getElem?_eq_getElem hiv) (List.getElem?_eq_getElem hi)
  rcases hr.2 with ⟨_, hn⟩ | ⟨g, cap, cur, hv, hb, hg, _⟩
  · omega
  · rcases h.top.2 with ⟨_, hn⟩ | ⟨A, c, cur2, hv2, hb2, hg2, _⟩
    · omega
    · have hlt : g < w.heap.size := (Array.getElem?_eq_some_iff.1 hg).1
      have hc := h.top.cells (g := A) (by rw [hv2]; rfl) i vs[i] (List.getElem?_eq_getElem hiv)
      rw [add_none, Nat.zero_add] at hc
      refine ⟨A, vs.length, c, g, cap, hv2, h.len, by rw [hc, hv], by rw [List.getElem?_eq_getElem hiv, hv], hb, hlt, hb2, (Array.getElem?_eq_some_iff.1 hg2).1, fun e => ?_⟩
      exact h.off i vs[i] g (List.getElem?_eq_getElem hiv) (by rw [hv]; rfl) (by rw [hv2, e]; rfl)
/-- one cell of row i is written -/
theorem OwnGrid.set (h : OwnGrid T U base w v vs ls) {i s g cap : Nat} {l : List Int} (hu : vs[i]? = some (.slice (some ⟨g, 0, none⟩) l.length cap)) (hl : ls[i]? = some l) (x : Int) :
    OwnGrid T U base (w.setCell ⟨g, s, none⟩ (.int .i64 x)) v vs (ls.set i (l.set s x)) := by
  have hr := h.rows i _ l hu hl
  obtain ⟨hst, hgr⟩ := hr.stored s (.int .i64 x)
  refine ⟨ownsRow_setCell_other h.top (h.off i _ g hu rfl) _, by rw [List.length_set]; exact h.len, fun j u l' hj hlj => ?_, h.apart, h.off⟩
  by_cases e : i = j
  · subst e
    rw [hu] at hj; cases hj
    rw [List.getElem?_set_self (List.getElem?_eq_some_iff.1 hl).1] at hlj
    cases hlj
    rw [List.length_set, ic_set]
    exact hst
  · rw [List.getElem?_set_ne e] at hlj
    exact ownsRow_setCell_other (h.rows j u l' hj hlj) (fun e' => h.apart i j _ u g e hu hj rfl e') _
theorem OwnGrid.le (h : OwnGrid T U base w v vs ls) {b : Nat} (hb : b ≤ base) : OwnGrid T U b w v vs ls :=
  ⟨own_base h.top hb, h.len, fun i u l hu hl => own_base (h.rows i u l hu hl) hb, h.apart, h.off⟩
theorem OwnGrid.setCell_below (h : OwnGrid T U base w v vs ls) {a : Addr} (ha : a.block < base) (u : Value) : OwnGrid T U base (w.setCell a u) v vs ls :=
  ⟨ownsRow_setCell_below h.top ha u, h.len, fun i u' l hu hl => ownsRow_setCell_below (h.rows i u' l hu hl) ha u, h.apart, h.off⟩
/-- the same, but for who shares what -/
def OwnRows (T U : TypeId) (base : Nat) (w : World) (v : Value) (ls : List (List Int)) : Prop :=
  ∃ vs : List Value, w.ownsRow base T 1 v vs.length vs ∧ vs.length = ls.length ∧ ∀ (i : Nat) (u : Value) (l : List Int), vs[i]? = some u → ls[i]? = some l → w.ownsRow base U 1 u l.length (l.flatMap ic)
theorem OwnRows.grid (h : OwnRows T U base w v ls) : Grid w v ls := by
  obtain ⟨vs, h1, h2, h3⟩ := h
  exact ⟨vs, Sl.of_own (enc := one) (size := 1) one_len (by rw [flat_one]; exact h1), h2, fun i u l hu hl => Sl.of_own ic_len (h3 i u l hu hl)⟩
theorem OwnRows.setCell_below (h : OwnRows T U base w v ls) {a : Addr} (ha : a.block < base) (u : Value) : OwnRows T U base (w.setCell a u) v ls := by
  obtain ⟨vs, h1, h2, h3⟩ := h
  exact ⟨vs, ownsRow_setCell_below h1 ha u, h2, fun i u' l hu hl => ownsRow_setCell_below (h3 i u' l hu hl) ha u⟩
theorem OwnRows.drew (h : OwnRows T U base w v ls) : OwnRows T U base w.drew v ls := h
/-- one row more at the end, wherever the top goes; then a store elsewhere -/
theorem OwnGrid.snoc_set (h : OwnGrid T U base w v vs ls) {u v' x : Value} {l : List Int} {a : Addr} (hu : w.ownsRow base U 1 u l.length (l.flatMap ic)) (hn : u.ownBlock ≠ v.ownBlock ∨ u.ownBlock = none) (ht : w'.ownsRow base T 1 v' (vs.length + 1) (vs ++ [u])) (hg : w.grownBy w' v.ownBlock)
    (a1 : v'.ownBlock ≠ some a.block) (a2 : ∀ (i : Nat) (u' : Value), vs[i]? = some u' → u'.ownBlock ≠ some a.block) (a3 : u.ownBlock ≠ some a.block) : OwnRows T U base (w'.setCell a x) v' (ls ++ [l]) := by
  have hkeep : ∀ (i : Nat) (u' : Value) (l' : List Int), vs[i]? = some u' → ls[i]? = some l' → w'.ownsRow base U 1 u' l'.length (l'.flatMap ic) := fun i u' l' hu' hl' =>
    (h.rows i u' l' hu' hl').kept hg (by
      rcases e : u'.ownBlock with _ | g
      · exact .inl rfl
      · exact .inr fun e' => h.off i u' g hu' e (e'.symm))
  have ht' : (w'.setCell a x).ownsRow base T 1 v' (vs ++ [u]).length (vs ++ [u]) := by rw [List.length_append]; exact ownsRow_setCell_other ht a1 x
  refine ⟨vs ++ [u], ht', by rw [List.length_append, List.length_append, h.len]; rfl, fun i u' l' hu' hl' => ?_⟩
  by_cases hi : i < vs.length
  · rw [List.getElem?_append_left hi] at hu'
    rw [List.getElem?_append_left (by rw [← h.len]; exact hi)] at hl'
    exact ownsRow_setCell_other (hkeep i u' l' hu' hl') (a2 i u' hu') x
  · have hlt : i < (vs ++ [u]).length := (List.getElem?_eq_some_iff.1 hu').1
    rw [List.length_append] at hlt
    obtain rfl : i = vs.length := by simp at hlt; omega
    rw [List.getElem?_concat_length] at hu'
    rw [h.len, List.getElem?_concat_length] at hl'
    cases hu'; cases hl'
    exact ownsRow_setCell_other (hu.kept hg (by rcases hn with h1 | h1 <;> simp [h1])) a3 x
end

/-- while the rows are copied: the first are new, the others still the old ones -/
structure Part (T U : TypeId) (B : Nat) (w : World) (v : Value) (ns olds : List Value) (ls : List (List Int)) : Prop where
  top : w.ownsRow B T 1 v (ns.length + olds.length) (ns ++ olds)
  rows : ∀ (i : Nat) (u : Value) (l : List Int), ns[i]? = some u → ls[i]? = some l → w.ownsRow B U 1 u l.length (l.flatMap ic)
  apart : ∀ (i j : Nat) (u u' : Value) (g : Nat), i ≠ j → ns[i]? = some u → ns[j]? = some u' → u.ownBlock = some g → u'.ownBlock ≠ some g
  off : ∀ (i : Nat) (u : Value) (g : Nat), ns[i]? = some u → u.ownBlock = some g → v.ownBlock ≠ some g
section
variable {T U : TypeId} {B : Nat} {w w1 : World} {v o : Value} {ns olds : List Value} {ls : List (List Int)}
theorem Part.whole (h : Part T U B w v ns [] ls) (hl : ns.length = ls.length) : OwnGrid T U B w v ns ls :=
  ⟨by simpa using h.top, hl, h.rows, h.apart, h.off⟩
theorem Part.start (h : w.ownsRow B T 1 v olds.length olds) : Part T U B w v [] olds ls :=
  ⟨by simpa using h, by simp, by simp, by simp⟩
theorem Part.below (h : Part T U B w v ns olds ls) (hb : Below w.heap.size w w1) : Part T U B w1 v ns olds ls :=
  ⟨own_below h.top hb, fun i u l hu hl => own_below (h.rows i u l hu hl) hb, h.apart, h.off⟩
/-- the next row, laid anew in w1, goes into its place -/
theorem Part.next {u : Value} {l : List Int} {A c : Nat} (h : Part T U B w v ns (o :: olds) ls) (hb : Below w.heap.size w w1) (hv : v = .slice (some ⟨A, 0, none⟩) (ns.length + (olds.length + 1)) c) (hl : ls[ns.length]? = some l) (hu : w1.ownsRow w.heap.size U 1 u l.length (l.flatMap ic)) (hB : B ≤ w.heap.size) :
    Part T U B (w1.setCell ⟨A, ns.length, none⟩ u) v (ns ++ [u]) olds ls := by
  have h1 := h.below hb
  have ht := h1.top
  have hA : A < w.heap.size := (h.top.lt A (by rw [hv]; rfl)).2
  have hblk : ∀ (i : Nat) (u' : Value) (g : Nat), ns[i]? = some u' → u'.ownBlock = some g → g < w.heap.size := fun i u' g hi hg => by
    rcases e : ls[i]? with _ | l'
    · have a1 : i < ns.length := (List.getElem?_eq_some_iff.1 hi).1
      have a2 : ns.length < ls.length := (List.getElem?_eq_some_iff.1 hl).1
      rw [List.getElem?_eq_none_iff] at e; omega
    · exact ((h.rows i u' l' hi e).lt g hg).2
  have hnew : ∀ g, u.ownBlock = some g → w.heap.size ≤ g := fun g hg => (hu.lt g hg).1
  rw [hv] at ht
  obtain ⟨hst, hgr⟩ := World.ownsRow.stored (by simpa using ht) ns.length u
  rw [show (ns ++ o :: olds).set ns.length u = ns ++ [u] ++ olds by simp] at hst
  refine ⟨by rw [hv, List.length_append, List.length_singleton, show ns.length + 1 + olds.length = ns.length + (olds.length + 1) by omega]; exact hst, fun i u' l' hi hl' => ?_, fun i j u1 u2 g hij hi hj hg => ?_, fun i u' g hi hg => ?_⟩
  · have hoff : u'.ownBlock ≠ some A := by
      by_cases e : i < ns.length
      · rw [List.getElem?_append_left e] at hi
        intro e'
        exact h.off i u' A hi e' (by rw [hv]; rfl)
      · have : i < (ns ++ [u]).length := (List.getElem?_eq_some_iff.1 hi).1
        rw [List.length_append, List.length_singleton] at this
        obtain rfl : i = ns.length := by omega
        rw [List.getElem?_concat_length] at hi; cases hi
        intro e'
        have := hnew A e'; omega
    by_cases e : i < ns.length
    · rw [List.getElem?_append_left e] at hi
      exact ownsRow_setCell_other (h1.rows i u' l' hi hl') hoff _
    · have : i < (ns ++ [u]).length := (List.getElem?_eq_some_iff.1 hi).1
      rw [List.length_append, List.length_singleton] at this
      obtain rfl : i = ns.length := by omega
      rw [List.getElem?_concat_length] at hi; cases hi
      rw [hl] at hl'; cases hl'
      exact ownsRow_setCell_other (own_base hu hB) hoff _
  · have hi' : i < (ns ++ [u]).length := (List.getElem?_eq_some_iff.1 hi).1
    have hj' : j < (ns ++ [u]).length := (List.getElem?_eq_some_iff.1 hj).1
    rw [List.length_append, List.length_singleton] at hi' hj'
    by_cases ei : i < ns.length
    · rw [List.getElem?_append_left ei] at hi
      by_cases ej : j < ns.length
      · rw [List.getElem?_append_left ej] at hj
        exact h.apart i j u1 u2 g hij hi hj hg
      · obtain rfl : j = ns.length := by omega
        rw [List.getElem?_concat_length] at hj; cases hj
        intro e'
        have := hnew g e'; have := hblk i u1 g hi hg; omega
    · obtain rfl : i = ns.length := by omega
      rw [List.getElem?_concat_length] at hi; cases hi
      rw [List.getElem?_append_left (by omega)] at hj
      intro e'
      have := hnew g hg; have := hblk j u2 g hj e'; omega
  · by_cases e : i < ns.length
    · rw [List.getElem?_append_left e] at hi
      exact h.off i u' g hi hg
    · have : i < (ns ++ [u]).length := (List.getElem?_eq_some_iff.1 hi).1
      rw [List.length_append, List.length_singleton] at this
      obtain rfl : i = ns.length := by omega
      rw [List.getElem?_concat_length] at hi; cases hi
      intro e'
      rw [hv] at e'
      simp only [Value.ownBlock, Option.some.injEq] at e'
      have := hnew g hg; omega
end
/-- a block of another type is not the row's -/
theorem own_type {w : World} {base b : Nat} {e t : TypeId} {size n : Nat} {v : Value} {xs : List Value} {cs : Array Value} {fz : Nat × Nat} (h : w.ownsRow base e size v n xs) (hb : w.heap[b]? = some (.cells cs t fz)) (hne : e ≠ t) : v.ownBlock ≠ some b := by
  intro he
  rcases h.2 with ⟨rfl, _⟩ | ⟨g, cap, cur, rfl, _, hg, _⟩
  · simp [Value.ownBlock] at he
  · simp only [Value.ownBlock, Option.some.injEq] at he
    subst he
    rw [hb] at hg
    cases hg
    exact hne rfl
theorem OwnRows.below {T U : TypeId} {base : Nat} {w w' : World} {v : Value} {ls : List (List Int)} (h : OwnRows T U base w v ls) (hb : Below w.heap.size w w') : OwnRows T U base w' v ls := by
  obtain ⟨vs, h1, h2, h3⟩ := h
  exact ⟨vs, own_below h1 hb, h2, fun i u l hu hl => own_below (h3 i u l hu hl) hb⟩
theorem OwnRows.grown {T U : TypeId} {base g : Nat} {w w' : World} {v : Value} {ls : List (List Int)} (h : OwnRows T U base w v ls) (hg : w.grownBy w' (some g)) (hlt : g < base) : OwnRows T U base w' v ls := by
  obtain ⟨vs, h1, h2, h3⟩ := h
  exact ⟨vs, h1.kept hg (.inr fun e => by have := (h1.lt g e).1; omega), h2, fun i u l hu hl => (h3 i u l hu hl).kept hg (.inr fun e => by have := ((h3 i u l hu hl).lt g e).1; omega)⟩
theorem OwnGrid.own {T U : TypeId} {base b : Nat} {w : World} {v : Value} {vs : List Value} {ls : List (List Int)} (h : OwnGrid T U base w v vs ls) (hb : b ≤ base) : OwnRows T U b w v ls :=
  ⟨vs, own_base h.top hb, h.len, fun i u l hu hl => own_base (h.rows i u l hu hl) hb⟩
theorem OwnRows.le {T U : TypeId} {base b : Nat} {w : World} {v : Value} {ls : List (List Int)} (h : OwnRows T U base w v ls) (hb : b ≤ base) : OwnRows T U b w v ls := by
  obtain ⟨vs, h1, h2, h3⟩ := h
  exact ⟨vs, own_base h1 hb, h2, fun i u l hu hl => own_base (h3 i u l hu hl) hb⟩
theorem OwnRows.nil_ {T U : TypeId} {base : Nat} {w : World} : OwnRows T U base w (.slice none 0 0) [] := ⟨[], World.ownsRow_nil _ _ _ _, rfl, by simp⟩
theorem OwnRows.form {T U : TypeId} {base : Nat} {w : World} {v : Value} {ls : List (List Int)} (h : OwnRows T U base w v ls) : ∃ A c, v = .slice A ls.length c ∧ ls.length ≤ c ∧ c ≤ maxLen := h.grid.form
/-- one row more -/
theorem OwnRows.snoc {T U : TypeId} {base : Nat} {w w' : World} {v v' u : Value} {vs : List Value} {ls : List (List Int)} {l : List Int} (hTU : T ≠ U) (hl : vs.length = ls.length) (htop : w.ownsRow base T 1 v vs.length vs) (hrows : ∀ (i : Nat) (u : Value) (l : List Int), vs[i]? = some u → ls[i]? = some l → w.ownsRow base U 1 u l.length (l.flatMap ic))
    (hu : w.ownsRow base U 1 u l.length (l.flatMap ic)) (ht : w'.ownsRow base T 1 v' (vs.length + 1) (vs ++ [u])) (hg : w.grownBy w' v.ownBlock) : OwnRows T U base w' v' (ls ++ [l]) := by
  have hk : ∀ {u : Value} {l : List Int}, w.ownsRow base U 1 u l.length (l.flatMap ic) → w'.ownsRow base U 1 u l.length (l.flatMap ic) := fun {u l} h => h.kept hg (by
    rcases e : v.ownBlock with _ | b
    · cases u.ownBlock <;> simp
    · refine .inr ?_
      rcases htop.2 with ⟨rfl, _⟩ | ⟨g, cap, cur, rfl, _, hgg, _⟩
      · simp [Value.ownBlock] at e
      · simp only [Value.ownBlock, Option.some.injEq] at e
        subst e
        exact own_type h hgg (fun e => hTU e.symm))
  refine ⟨vs ++ [u], by rw [List.length_append]; exact ht, by rw [List.length_append, List.length_append, hl]; rfl, fun i u' l' hu' hl' => ?_⟩
  by_cases hi : i < vs.length
  · rw [List.getElem?_append_left hi] at hu'
    rw [List.getElem?_append_left (by rw [← hl]; exact hi)] at hl'
    exact hk (hrows i u' l' hu' hl')
  · have hlt : i < (vs ++ [u]).length := (List.getElem?_eq_some_iff.1 hu').1
    rw [List.length_append] at hlt
    obtain rfl : i = vs.length := by simp at hlt; omega
    rw [List.getElem?_concat_length] at hu'
    rw [hl, List.getElem?_concat_length] at hl'
    cases hu'; cases hl'
    exact hk hu
/-- append(v, x...) of one-cell values known one by one to be so -/
theorem run_append_ones {P : Program} (w : World) (base : Nat) (t ty e : TypeId) (i : TypeInfo) (z : Value) (bytes : Nat) (ht : P.underlying t = some (.slice e)) (hi : P.info? e = some i) (hz : i.zero = some z)
    (hsize : i.size = 1) (hby : i.bytes = bytes) (hzs : z.cells.size = 1)
    (v : Value) (n : Nat) (xs : List Value) (hown : w.ownsRow base e 1 v n xs) (x : Value) (l : List Value) (hx : Sl one 1 w x l) (h1 : ∀ u ∈ l, u.oneCell' = true)
    (h63 : n + l.length ≤ maxLen) (hbytes : (n + l.length) * bytes ≤ 140737488355328) (hbase : base ≤ w.heap.size) :
    ∃ v' w', (Builtin.append_ #[t, t] ty #[v, x]).run P w = .ok v' w' ∧ w'.ownsRow base e 1 v' (n + l.length) (xs ++ l) ∧ w.grownBy w' v.ownBlock := by
  obtain ⟨A, c, rfl, hc1, hc2, hc3⟩ := hx
  rcases A with _ | ad
  · have hl : l = [] := by
      rcases Nat.eq_zero_or_pos l.length with h0 | h0
      · exact List.eq_nil_of_length_eq_zero h0
      · obtain ⟨b, off, h, _⟩ := hc3 h0; cases h
    subst hl
    exact ⟨v, w, run_append_none w base t ty e i 1 ht hi v n xs hown c, by simpa using hown, World.grownBy.refl w _⟩
  · have hcells : ∀ j u, l[j]? = some u → w.cell? (ad.add j) = some u := by
      intro j u hu
      have hlt : j < l.length := (List.getElem?_eq_some_iff.1 hu).1
      obtain ⟨b, off, h, _, hcl⟩ := hc3 (by omega)
      injection h with h
      subst h
      rw [add_none]
      have := hcl j u hu 0 u rfl
      simpa using this
    obtain ⟨v', w', hrun, h2, h3, _⟩ := run_append_own (P := P) w base t ty e i z 1 bytes ht hi hz hsize hby hzs (by decide) v n xs hown ad l.length c l (by simp) hcells h1 h63 hbytes hbase
    exact ⟨v', w', hrun, h2, h3⟩
theorem wpList_append_ones {P : Program} (w : World) {ops : Array Oper} {rest : List Oper} {o : Oper} {a : Act} {Q : Exit → Act → World → Prop} (hgd : o.guard = none) (s y : Operand) (t : TypeId)
    (ho : o.op = .call { callee := .builtin .append, args := #[s, y], argTypes := #[t, t] })
    (base : Nat) (e : TypeId) (i : TypeInfo) (z : Value) (bytes : Nat) (ht : P.underlying t = some (.slice e)) (hi : P.info? e = some i) (hz : i.zero = some z)
    (hsize : i.size = 1) (hby : i.bytes = bytes) (hzs : z.cells.size = 1)
    (v : Value) (n : Nat) (xs : List Value) (hs : a.eval s = v) (hown : w.ownsRow base e 1 v n xs) (x : Value) (l : List Value) (hy : a.eval y = x) (hx : Sl one 1 w x l) (h1 : ∀ u ∈ l, u.oneCell' = true)
    (h63 : n + l.length ≤ maxLen) (hbytes : (n + l.length) * bytes ≤ 140737488355328) (hbase : base ≤ w.heap.size)
    (h : ∀ v' w', w'.ownsRow base e 1 v' (n + l.length) (xs ++ l) → Below base w w' → wpList P ops Q rest (a.put o.dst v') w') : wpList P ops Q (o :: rest) a w :=
  wpList_plain hgd fun _ hK => by
    obtain ⟨v', w', hrun, h2, h3⟩ := run_append_ones (P := P) w base t o.type e i z bytes ht hi hz hsize hby hzs v n xs hown x l hx h1 h63 hbytes hbase
    unfold Oper.wp execOp
    simp only [ho, resolve, invoke, builtin, Sem.run_bind, Sem.run_pure, Result.andThen_ok, List.map_toArray, List.map_cons, List.map_nil, hs, hy, hrun]
    exact hK _ _ (h v' w' h2 ((Below.refl _ _).grown h3 hbase (own_ge hown)))
/-- each row of a grid is one cell -/
theorem grid_ones {w : World} {v : Value} {ls : List (List Int)} (h : Grid w v ls) : ∃ vs : List Value, Sl one 1 w v vs ∧ vs.length = ls.length ∧ (∀ u ∈ vs, u.oneCell' = true) ∧ ∀ (i : Nat) (u : Value) (l : List Int), vs[i]? = some u → ls[i]? = some l → Ints w u l := by
  obtain ⟨vs, h1, h2, h3⟩ := h
  refine ⟨vs, h1, h2, fun u hu => ?_, h3⟩
  obtain ⟨i, hi⟩ := List.getElem?_of_mem hu
  have hil : i < ls.length := by rw [← h2]; exact (List.getElem?_eq_some_iff.1 hi).1
  obtain ⟨A, c, rfl, _⟩ := h3 i u ls[i] hi (List.getElem?_eq_getElem hil)
  rfl
end Go.Proofs.YtffdgkofolomlaaDoor
