import Derived.Laws.OwnMore
import Derived.OneCell
import Derived.Lib.SliceRun
import Derived.Test.YtdmbcjckgfjcaaaGreatDoorRaf
/- A slice of slices of ints that the call itself has laid: each row its own block. -/
namespace Go.Proofs.YtdmbcjckgfjcaaaGreatDoor
open Go.RowKit
theorem flat_one (l : List Value) : l.flatMap one = l := by induction l with | nil => rfl | cons a l ih => rw [List.flatMap_cons, ih]; rfl
section
variable {T U : TypeId} {base : Nat} {w w' : World} {v : Value} {vs : List Value} {ls : List (List Int)}
/-- the same, but for who shares what -/
def OwnRows (T U : TypeId) (base : Nat) (w : World) (v : Value) (ls : List (List Int)) : Prop :=
  ∃ vs : List Value, w.ownsRow base T 1 v vs.length vs ∧ vs.length = ls.length ∧ ∀ (i : Nat) (u : Value) (l : List Int), vs[i]? = some u → ls[i]? = some l → w.ownsRow base U 1 u l.length (l.flatMap ic)
theorem OwnRows.grid (h : OwnRows T U base w v ls) : Grid w v ls := by
  obtain ⟨vs, h1, h2, h3⟩ := h
  exact ⟨vs, Sl.of_own (enc := one) (size := 1) one_len (by rw [flat_one]; exact h1), h2, fun i u l hu hl => Sl.of_own ic_len (h3 i u l hu hl)⟩
theorem OwnRows.setCell_below (h : OwnRows T U base w v ls) {a : Addr} (ha : a.block < base) (u : Value) : OwnRows T U base (w.setCell a u) v ls := by
  obtain ⟨vs, h1, h2, h3⟩ := h
  exact ⟨vs, ownsRow_setCell_below h1 ha u, h2, fun i u' l hu hl => ownsRow_setCell_below (h3 i u' l hu hl) ha u⟩
end
/-- a block of another type is not the row's -/
theorem own_type {w : World} {base b : Nat} {e t : TypeId} {size n : Nat} {v : Value} {xs : List Value} {cs : Array Value} {fz : Nat × Nat} (h : w.ownsRow base e size v n xs) (hb : w.heap[b]? = some (.cells cs t fz)) (hne : e ≠ t) : v.ownBlock ≠ some b := by
  intro he
  rcases h.2 with ⟨rfl, _⟩ | ⟨g, cap, cur, rfl, _, hg, _⟩
  · simp [Value.ownBlock] at he
  · simp only [Value.ownBlock, Option.some.injEq] at he
    subst he
    rw [hb] at hg
    cases hg
    exact hne rfl
theorem OwnRows.below {T U : TypeId} {base : Nat} {w w' : World} {v : Value} {ls : List (List Int)} (h : OwnRows T U base w v ls) (hb : Below w.heap.size w w') : OwnRows T U base w' v ls := by
  obtain ⟨vs, h1, h2, h3⟩ := h
  exact ⟨vs, own_below h1 hb, h2, fun i u l hu hl => own_below (h3 i u l hu hl) hb⟩
theorem OwnRows.grown {T U : TypeId} {base g : Nat} {w w' : World} {v : Value} {ls : List (List Int)} (h : OwnRows T U base w v ls) (hg : w.grownBy w' (some g)) (hlt : g < base) : OwnRows T U base w' v ls := by
  obtain ⟨vs, h1, h2, h3⟩ := h
  exact ⟨vs, h1.kept hg (.inr fun e => by have := (h1.lt g e).1; omega), h2, fun i u l hu hl => (h3 i u l hu hl).kept hg (.inr fun e => by have := ((h3 i u l hu hl).lt g e).1; omega)⟩
theorem OwnRows.le {T U : TypeId} {base b : Nat} {w : World} {v : Value} {ls : List (List Int)} (h : OwnRows T U base w v ls) (hb : b ≤ base) : OwnRows T U b w v ls := by
  obtain ⟨vs, h1, h2, h3⟩ := h
  exact ⟨vs, own_base h1 hb, h2, fun i u l hu hl => own_base (h3 i u l hu hl) hb⟩
theorem OwnRows.nil_ {T U : TypeId} {base : Nat} {w : World} : OwnRows T U base w (.slice none 0 0) [] := ⟨[], World.ownsRow_nil _ _ _ _, rfl, by simp⟩
/-- one row more -/
theorem OwnRows.snoc {T U : TypeId} {base : Nat} {w w' : World} {v v' u : Value} {vs : List Value} {ls : List (List Int)} {l : List Int} (hTU : T ≠ U) (hl : vs.length = ls.length) (htop : w.ownsRow base T 1 v vs.length vs) (hrows : ∀ (i : Nat) (u : Value) (l : List Int), vs[i]? = some u → ls[i]? = some l → w.ownsRow base U 1 u l.length (l.flatMap ic))
    (hu : w.ownsRow base U 1 u l.length (l.flatMap ic)) (ht : w'.ownsRow base T 1 v' (vs.length + 1) (vs ++ [u])) (hg : w.grownBy w' v.ownBlock) : OwnRows T U base w' v' (ls ++ [l]) := by
  have hk : ∀ {u : Value} {l : List Int}, w.ownsRow base U 1 u l.length (l.flatMap ic) → w'.ownsRow base U 1 u l.length (l.flatMap ic) := fun {u l} h => h.kept hg (by
    rcases e : v.ownBlock with _ | b
    · cases u.ownBlock <;> simp
    · refine .inr ?_
      rcases htop.2 with ⟨rfl, _⟩ | ⟨g, cap, cur, rfl, _, hgg, _⟩
      · simp [Value.ownBlock] at e
      · simp only [Value.ownBlock, Option.some.injEq] at e
        subst e
        exact own_type h hgg (fun e => hTU e.symm))
  refine ⟨vs ++ [u], by rw [List.length_append]; exact ht, by rw [List.length_append, List.length_append, hl]; rfl, fun i u' l' hu' hl' => ?_⟩
  by_cases hi : i < vs.length
  · rw [List.getElem?_append_left hi] at hu'
    rw [List.getElem?_append_left (by rw [← hl]; exact hi)] at hl'
    exact hk (hrows i u' l' hu' hl')
  · have hlt : i < (vs ++ [u]).length := (List.getElem?_eq_some_iff.1 hu').1
    rw [List.length_append] at hlt
    obtain rfl : i = vs.length := by simp at hlt; omega
    rw [List.getElem?_concat_length] at hu'
    rw [hl, List.getElem?_concat_length] at hl'
    cases hu'; cases hl'
    exact hk hu
/-- append(v, x...) of one-cell values known one by one to be so -/
theorem run_append_ones {P : Program} (w : World) (base : Nat) (t ty e : TypeId) (i : TypeInfo) (z : Value) (bytes : Nat) (ht : P.underlying t = some (.slice e)) (hi : P.info? e = some i) (hz : i.zero = some z)
    (hsize : i.size = 1) (hby : i.bytes = bytes) (hzs : z.cells.size = 1)
    (v : Value) (n : Nat) (xs : List Value) (hown : w.ownsRow base e 1 v n xs) (x : Value) (l : List Value) (hx : Sl one 1 w x l) (h1 : ∀ u ∈ l, u.oneCell' = true)
    (h63 : n + l.length ≤ maxLen) (hbytes : (n + l.length) * bytes ≤ 140737488355328) (hbase : base ≤ w.heap.size) :
    ∃ v' w', (Builtin.append_ #[t, t] ty #[v, x]).run P w = .ok v' w' ∧ w'.ownsRow base e 1 v' (n + l.length) (xs ++ l) ∧ w.grownBy w' v.ownBlock := by
  obtain ⟨A, c, rfl, hc1, hc2, hc3⟩ := hx
  rcases A with _ | ad
  · have hl : l = [] := by
      rcases Nat.eq_zero_or_pos l.length with h0 | h0
      · exact List.eq_nil_of_length_eq_zero h0
      · obtain ⟨b, off, h, _⟩ := hc3 h0; cases h
    subst hl
    exact ⟨v, w, run_append_none w base t ty e i 1 ht hi v n xs hown c, by simpa using hown, World.grownBy.refl w _⟩
  · have hcells : ∀ j u, l[j]? = some u → w.cell? (ad.add j) = some u := by
      intro j u hu
      have hlt : j < l.length := (List.getElem?_eq_some_iff.1 hu).1
      obtain ⟨b, off, h, _, hcl⟩ := hc3 (by omega)
      injection h with h
      subst h
      rw [add_none]
      have := hcl j u hu 0 u rfl
      simpa using this
    obtain ⟨v', w', hrun, h2, h3, _⟩ := run_append_own (P := P) w base t ty e i z 1 bytes ht hi hz hsize hby hzs (by decide) v n xs hown ad l.length c l (by simp) hcells h1 h63 hbytes hbase
    exact ⟨v', w', hrun, h2, h3⟩
theorem wpList_append_ones {P : Program} (w : World) {ops : Array Oper} {rest : List Oper} {o : Oper} {a : Act} {Q : Exit → Act → World → Prop} (hgd : o.guard = none) (s y : Operand) (t : TypeId)
    (ho : o.op = .call { callee := .builtin .append, args := #[s, y], argTypes := #[t, t] })
    (base : Nat) (e : TypeId) (i : TypeInfo) (z : Value) (bytes : Nat) (ht : P.underlying t = some (.slice e)) (hi : P.info? e = some i) (hz : i.zero = some z)
    (hsize : i.size = 1) (hby : i.bytes = bytes) (hzs : z.cells.size = 1)
    (v : Value) (n : Nat) (xs : List Value) (hs : a.eval s = v) (hown : w.ownsRow base e 1 v n xs) (x : Value) (l : List Value) (hy : a.eval y = x) (hx : Sl one 1 w x l) (h1 : ∀ u ∈ l, u.oneCell' = true)
    (h63 : n + l.length ≤ maxLen) (hbytes : (n + l.length) * bytes ≤ 140737488355328) (hbase : base ≤ w.heap.size)
    (h : ∀ v' w', w'.ownsRow base e 1 v' (n + l.length) (xs ++ l) → Below base w w' → wpList P ops Q rest (a.put o.dst v') w') : wpList P ops Q (o :: rest) a w :=
  wpList_plain hgd fun _ hK => by
    obtain ⟨v', w', hrun, h2, h3⟩ := run_append_ones (P := P) w base t o.type e i z bytes ht hi hz hsize hby hzs v n xs hown x l hx h1 h63 hbytes hbase
    unfold Oper.wp execOp
    simp only [ho, resolve, invoke, builtin, Sem.run_bind, Sem.run_pure, Result.andThen_ok, List.map_toArray, List.map_cons, List.map_nil, hs, hy, hrun]
    exact hK _ _ (h v' w' h2 ((Below.refl _ _).grown h3 hbase (own_ge hown)))
/-- each row of a grid is one cell -/
theorem grid_ones {w : World} {v : Value} {ls : List (List Int)} (h : Grid w v ls) : ∃ vs : List Value, Sl one 1 w v vs ∧ vs.length = ls.length ∧ (∀ u ∈ vs, u.oneCell' = true) ∧ ∀ (i : Nat) (u : Value) (l : List Int), vs[i]? = some u → ls[i]? = some l → Ints w u l := by
  obtain ⟨vs, h1, h2, h3⟩ := h
  refine ⟨vs, h1, h2, fun u hu => ?_, h3⟩
  obtain ⟨i, hi⟩ := List.getElem?_of_mem hu
  have hil : i < ls.length := by rw [← h2]; exact (List.getElem?_eq_some_iff.1 hi).1
  obtain ⟨A, c, rfl, _⟩ := h3 i u ls[i] hi (List.getElem?_eq_getElem hil)
  rfl
end Go.Proofs.YtdmbcjckgfjcaaaGreatDoor
/- Layer heap: copied, Put, Alloc. -/
namespace Go.Proofs.YtdmbcjckgfjcaaaGreatDoor
open Go.RowKit
theorem infoRow : (Tryz.prog.info? 47).map (fun i => (i.zero, i.size, i.bytes)) = some (some (.slice none 0 0), 1, 24) := by kernel_rfl
theorem infoInt : (Tryz.prog.info? 3).map (fun i => (i.zero, i.size, i.bytes)) = some (some (.int .i64 0), 1, 8) := by kernel_rfl
set_option maxHeartbeats 1000000 in
theorem Clone_ints (v : Value) (l : List Int) (w : World) (h : Ints w v l) (hbig : l.length * 8 ≤ 140737488351232) :
    Calls Tryz.prog 84 #[v] w fun e w' => ∃ v', e = .returned v' ∧ w'.ownsRow w.heap.size 3 1 v' l.length (l.flatMap ic) ∧ Below w.heap.size w w' := by
  obtain ⟨i0, hi, hz0, hz1, hz2⟩ := info_parts infoInt
  have qn : ∀ (w : World) (a : Option Addr) (n c n' c' : Nat), (binOp .eql 47 (.slice a n c) (.slice none n' c')).run Tryz.prog w = .ok (.bool a.isNone) w := fun w a n c n' c' => Lib.run_eql_slice_nil w _ _ a n c n' c' Tryz.underlying47
  have HL := hide h
  obtain ⟨A, c, rfl, h1, h2, h3⟩ := h
  unfold maxLen at h2
  rcases A with _ | a
  · have h0 : l = [] := by
      rcases Nat.eq_zero_or_pos l.length with h0 | h0
      · exact List.eq_nil_of_length_eq_zero h0
      · obtain ⟨b, off, h, _⟩ := h3 h0; cases h
    subst h0
    clear h3
    go_enter Tryz.func84, Tryz.ntmps84
    go_wp2
    go_ret
    exact ⟨_, rfl, World.ownsRow_nil _ _ _ _, Below.refl _ _⟩
  · clear h3
    go_enter Tryz.func84, Tryz.ntmps84
    go_wp2_with (at_builtin; refine wpList_append_sl _ rfl _ _ 47 rfl w.heap.size 3 i0 (.int .i64 0) 1 8 Tryz.underlying47 hi hz0 hz1 hz2 rfl (by decide) _ _ _ rfl (World.ownsRow_made w #[] 0 (Nat.le_refl _) (Nat.zero_le _) rfl) _ l rfl (HL.out.alloc _) ic_len (fun _ u hu => by simp [ic] at hu; subst hu; rfl) (by unfold maxLen; omega) (by omega) (by simp) ?_)
    intro v' w1 hown hb
    go_wp2
    go_ret
    exact ⟨v', rfl, by simpa using hown, (balHp _ _).trans hb⟩
set_option maxHeartbeats 1000000 in
theorem Clone_rows (v : Value) (vs : List Value) (w : World) (h : Sl one 1 w v vs) (h1v : ∀ u ∈ vs, u.oneCell' = true) (hbig : vs.length * 24 ≤ 140737488351232) :
    Calls Tryz.prog 162 #[v] w fun e w' => ∃ v', e = .returned v' ∧ w'.ownsRow w.heap.size 47 1 v' vs.length vs ∧ Below w.heap.size w w' := by
  obtain ⟨i0, hi, hz0, hz1, hz2⟩ := info_parts infoRow
  have qn : ∀ (w : World) (a : Option Addr) (n c n' c' : Nat), (binOp .eql 22 (.slice a n c) (.slice none n' c')).run Tryz.prog w = .ok (.bool a.isNone) w := fun w a n c n' c' => Lib.run_eql_slice_nil w _ _ a n c n' c' Tryz.underlying22
  have HL := hide h
  obtain ⟨A, c, rfl, h1, h2, h3⟩ := h
  unfold maxLen at h2
  rcases A with _ | a
  · have h0 : vs = [] := by
      rcases Nat.eq_zero_or_pos vs.length with h0 | h0
      · exact List.eq_nil_of_length_eq_zero h0
      · obtain ⟨b, off, h, _⟩ := h3 h0; cases h
    subst h0
    clear h3
    go_enter Tryz.func162, Tryz.ntmps162
    go_wp2
    go_ret
    exact ⟨_, rfl, World.ownsRow_nil _ _ _ _, Below.refl _ _⟩
  · clear h3
    have HV := hide h1v
    have hv' : ∀ u, u ∈ vs → u.oneCell' = true := h1v
    clear h1v hv'
    go_enter Tryz.func162, Tryz.ntmps162
    go_wp2_with (at_builtin; refine wpList_append_ones _ rfl _ _ 22 rfl w.heap.size 47 i0 (.slice none 0 0) 24 Tryz.underlying22 hi hz0 hz1 hz2 rfl _ _ _ rfl (World.ownsRow_made w #[] 0 (Nat.le_refl _) (Nat.zero_le _) rfl) _ vs rfl (HL.out.alloc _) HV.out (by unfold maxLen; omega) (by omega) (by simp) ?_)
    intro v' w1 hown hb
    go_wp2
    go_ret
    exact ⟨v', rfl, by simpa using hown, (balHp _ _).trans hb⟩
end Go.Proofs.YtdmbcjckgfjcaaaGreatDoor
/- Layer heap: Put. -/
namespace Go.Proofs.YtdmbcjckgfjcaaaGreatDoor
open Go.RowKit
theorem keepcHp {a b : World} {p : Addr} {v : Value} (hb : Below a.heap.size a b) (h : a.cell? p = some v) : b.cell? p = some v := by
  rw [hb.cell (World.block_lt_of_cell? _ _ h)]; exact h
end Go.Proofs.YtdmbcjckgfjcaaaGreatDoor
/- Layer heap: Put, Get, Right, as later layers meet them: what is answered bears names. -/
namespace Go.Proofs.YtdmbcjckgfjcaaaGreatDoor
open Go.RowKit
abbrev OwnR (base : Nat) (w : World) (v : Value) (ls : Rws) : Prop := OwnRows 47 3 base w v ls
theorem Right_cHp (n : Int) (v : Value) (ls : Rws) (w : World) (h : Grid w v ls) (b : Bool) (hb : rightF n ls = b) :
    Calls Tryz.prog 145 #[hv n v] w fun e w' => e = .returned (.bool b) ∧ Below w.heap.size w w' := by
  subst hb; exact Right_anyHp n v ls w h
end Go.Proofs.YtdmbcjckgfjcaaaGreatDoor
