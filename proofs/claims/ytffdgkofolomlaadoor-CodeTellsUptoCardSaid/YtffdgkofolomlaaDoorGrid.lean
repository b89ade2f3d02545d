/- Slices of slices of ints that came in, read as lists of lists: whoever shares what. -/
import Derived.Test.YtffdgkofolomlaaDoorLaw
namespace Go.Proofs.YtffdgkofolomlaaDoor
open Go.RowKit Go.WideShapes Go.ChangeShapes Go.ChangeAt Go.Deep

/-- ints as cells -/
def ic (o : Int) : List Value := [.int .i64 o]
abbrev Ints (w : World) (v : Value) (l : List Int) : Prop := Sl ic 1 w v l
theorem ic_len (o : Int) : (ic o).length = 1 := rfl
theorem ic_map (l : List Int) : l.map (Value.int .i64) = l.flatMap ic := by induction l with | nil => rfl | cons a l ih => rw [List.map_cons, ih]; rfl
theorem ints_at {w : World} {A : Option Addr} {n c k : Nat} {l : List Int} (h : Ints w (.slice A n c) l) (hk : k < l.length) :
    ∃ b off, A = some ⟨b, off, none⟩ ∧ b < w.heap.size ∧ w.cell? ⟨b, off + k, none⟩ = some (.int .i64 l[k]) := by
  obtain ⟨A', c', e, h1, h2, h3⟩ := h
  injection e with e1 e2 e3
  subst e1
  obtain ⟨b, off, rfl, hb, hc⟩ := h3 (by omega)
  refine ⟨b, off, rfl, hb, ?_⟩
  have := hc k l[k] (List.getElem?_eq_getElem hk) 0 (.int .i64 l[k]) rfl
  simpa using this

/-- one value, one cell -/
def one (v : Value) : List Value := [v]
theorem one_len (v : Value) : (one v).length = 1 := rfl
/-- the slice of slices v reads as the list of lists ls -/
def Grid (w : World) (v : Value) (ls : List (List Int)) : Prop :=
  ∃ vs : List Value, Sl one 1 w v vs ∧ vs.length = ls.length ∧ ∀ (i : Nat) (u : Value) (l : List Int), vs[i]? = some u → ls[i]? = some l → Ints w u l
section
variable {w w' : World} {v : Value} {ls : List (List Int)}
theorem Grid.below (h : Grid w v ls) (hb : Below w.heap.size w w') : Grid w' v ls := by
  obtain ⟨vs, h1, h2, h3⟩ := h
  exact ⟨vs, h1.below hb, h2, fun i u l hu hl => (h3 i u l hu hl).below hb⟩
theorem Grid.alloc (h : Grid w v ls) (o : Obj) : Grid (w.alloc o) v ls := h.below ((Below.refl _ _).alloc (Nat.le_refl _) _)
theorem Grid.form (h : Grid w v ls) : ∃ A c, v = .slice A ls.length c ∧ ls.length ≤ c ∧ c ≤ maxLen := by
  obtain ⟨vs, ⟨A, c, rfl, h1, h2, _⟩, hl, _⟩ := h
  exact ⟨A, c, by rw [hl], by omega, h2⟩
theorem Grid.nil_ : Grid w (.slice none 0 0) [] := ⟨[], Sl.nil_, rfl, by simp⟩
theorem grid_at {A : Option Addr} {n c k : Nat} (h : Grid w (.slice A n c) ls) (hk : k < ls.length) :
    ∃ b off u, A = some ⟨b, off, none⟩ ∧ b < w.heap.size ∧ w.cell? ⟨b, off + k, none⟩ = some u ∧ Ints w u ls[k] := by
  obtain ⟨vs, ⟨A', c', e, h1, h2, h3⟩, hl, hi⟩ := h
  injection e with e1 e2 e3
  subst e1
  obtain ⟨b, off, rfl, hb, hc⟩ := h3 (by omega)
  have hkv : k < vs.length := by omega
  refine ⟨b, off, vs[k], rfl, hb, ?_, hi k _ _ (List.getElem?_eq_getElem hkv) (List.getElem?_eq_getElem hk)⟩
  have := hc k vs[k] (List.getElem?_eq_getElem hkv) 0 vs[k] rfl
  simpa using this
end

section
variable {H : Type} {enc : TypeId × Value → H} {P : Program} {W : World}
/-- one level: whatever its elements are; 'Q' speaks of an element and its datum -/
theorem sl_of_trod1 {α : Type} {ce : α → List Value} {Q : α → DataW H → Prop} {size base fuel : Nat} {spare : Nat → Bool} {held : Bool} {t e : TypeId} {cs : List Value} {x : DataW H × List MemPlace}
    (ht : P.underlying t = some (.slice e)) (hC : P.cellsOf e = size) (hsz : 0 < size) (hce : ∀ p, (ce p).length = size)
    (hel : ∀ n cs x, DataW.trod enc P W base spare held n e cs = some x → ∃ p : α, cs = ce p ∧ Q p x.1) (h : DataW.trod enc P W base spare held fuel t cs = some x) :
    ∃ (v : Value) (l : List α), cs = [v] ∧ Sl ce size W v l ∧ ((x.1 = .nil ∧ l = []) ∨ ∃ el rest, x.1 = .slice el rest ∧ el.length = l.length ∧ ∀ (i : Nat) (p : α) (d : DataW H), l[i]? = some p → el[i]? = some d → Q p d) := by
  rcases open_slice ht h with ⟨hcs, hx⟩ | ⟨a, len, cap, m, n, D, Pl, hcs, hb, hl, hm, hmm, hx, hi⟩
  · exact ⟨_, [], hcs, Sl.nil_, .inl ⟨by rw [hx], rfl⟩⟩
  · have hlm : len ≤ m := by rw [hmm]; split <;> omega
    have hex : ∀ i, i < len → ∃ p : α, Q p (D i) ∧ ∀ j u, (ce p)[j]? = some u → W.cell? (a.add (i * size + j)) = some u := fun i hil => by
      obtain ⟨cs', hc, ht'⟩ := hi i (by omega)
      obtain ⟨p, rfl, hq⟩ := hel n cs' _ ht'
      rw [hC] at hc
      obtain ⟨_, hcl, hat⟩ := World.cells?_some hc
      refine ⟨p, hq, fun j u hu => ?_⟩
      have hj : j < size := by have := (List.getElem?_eq_some_iff.1 hu).1; rw [hce] at this; exact this
      rw [← add_add, hat j hj, hu]
    obtain ⟨l, hll, hlq⟩ := list_of _ len hex
    subst hll
    refine ⟨_, l, hcs, ⟨_, cap, rfl, hl, hm, fun h0 => ?_⟩, .inr ⟨_, _, by rw [hx], by simp, fun i p d hp hd => ?_⟩⟩
    · have h00 := (hlq 0 l[0] (List.getElem?_eq_getElem h0)).2 0 ((ce l[0])[0]'(by rw [hce]; exact hsz)) (List.getElem?_eq_getElem _)
      rw [Nat.zero_mul, Nat.add_zero] at h00
      obtain ⟨b, off, spot⟩ := a
      have hsp : spot = none := by
        cases spot with
        | none => rfl
        | some s =>
          exfalso
          simp only [Addr.add, if_true, World.cell?] at h00
          split at h00 <;> simp at h00
      subst hsp
      refine ⟨b, off, rfl, ?_, fun i p hp j u hu => ?_⟩
      · have := World.block_lt_of_cell? W _ h00
        rw [add_none] at this; exact this
      · have := (hlq i p hp).2 j u hu
        rw [add_none] at this
        rw [Nat.add_assoc]; exact this
    · have hil : i < l.length := (List.getElem?_eq_some_iff.1 hp).1
      have : d = D i := by
        rw [List.getElem?_map, List.getElem?_range hil] at hd
        exact (Option.some.inj hd).symm
      rw [this]
      exact (hlq i p hp).1
/-- what a row of ints reads as -/
def RowD (W : World) (u : Value) (l : List Int) (d : DataW H) : Prop :=
  Ints W u l ∧ (∀ o ∈ l, -9223372036854775808 ≤ o ∧ o ≤ 9223372036854775807) ∧ ((d = .nil ∧ l = []) ∨ ∃ el rest, d = .slice el rest ∧ el.length = l.length)
theorem open_row {q base fuel : Nat} {spare : Nat → Bool} {held : Bool} {e : TypeId} {cs : List Value} {x : DataW H × List MemPlace}
    (he : P.underlying e = some (.slice q)) (hq : P.underlying q = some (.int .i64)) (cq : P.cellsOf q = 1) (h : DataW.trod enc P W base spare held fuel e cs = some x) :
    ∃ (v : Value) (l : List Int), cs = [v] ∧ RowD W v l x.1 := by
  obtain ⟨u, l, rfl, hu, hd⟩ := sl_of_trod1 (α := Int) (ce := ic) (Q := fun o _ => -9223372036854775808 ≤ o ∧ o ≤ 9223372036854775807) he cq (by decide) (fun _ => rfl) (fun n cs x hx => by
    obtain ⟨a, ha, _, wa⟩ := DataW.trod_int hq hx
    exact ⟨a, ha, by simpa [Lit.wf, IntKind.min, IntKind.max, IntKind.signed, IntKind.bits] using wa⟩) h
  refine ⟨u, l, rfl, hu, fun o ho => ?_, ?_⟩
  · obtain ⟨i, hi⟩ := List.getElem?_of_mem ho
    have hil : i < l.length := (List.getElem?_eq_some_iff.1 hi).1
    rcases hd with ⟨_, rfl⟩ | ⟨el, rest, hx, hel, hq'⟩
    · simp at hil
    · exact hq' i o el[i] hi (List.getElem?_eq_getElem (by omega))
  · rcases hd with h | ⟨el, rest, hx, hel, _⟩
    · exact .inl h
    · exact .inr ⟨el, rest, hx, hel⟩
theorem weights_all {e : TypeId} : ∀ {l : List (DataW H)} {i : Nat} {d : DataW H}, l[i]? = some d → ∀ n ∈ d.weights P e, n ∈ DataW.weightsAll P e l
  | [], _, _, h => by simp at h
  | x :: l, 0, _, h => by simp at h; subst h; intro n hn; simp only [DataW.weightsAll, List.mem_append]; exact .inl hn
  | x :: l, i + 1, _, h => fun n hn => by simp only [DataW.weightsAll, List.mem_append]; exact .inr (weights_all (l := l) (i := i) (by simpa using h) n hn)
theorem row_weight {e q : TypeId} {u : Value} {l : List Int} {d : DataW H} (he : P.underlying e = some (.slice q)) (hb : P.bytesOf q = 8) (h : RowD W u l d) (hw : ∀ n ∈ d.weights P e, n ≤ 140737488351232) : l.length * 8 ≤ 140737488351232 := by
  rcases h.2.2 with ⟨_, rfl⟩ | ⟨el, rest, rfl, hel⟩
  · simp
  · have h1 := hw ((el.length + rest.length) * 8) (by simp [DataW.weights, he, hb])
    rw [← hel]
    exact Nat.le_trans (Nat.mul_le_mul_right 8 (Nat.le_add_right _ _)) h1
theorem open_grid {q base fuel : Nat} {spare : Nat → Bool} {held : Bool} {t e : TypeId} {cs : List Value} {x : DataW H × List MemPlace}
    (ht : P.underlying t = some (.slice e)) (he : P.underlying e = some (.slice q)) (hq : P.underlying q = some (.int .i64)) (ce : P.cellsOf e = 1) (cq : P.cellsOf q = 1) (be : P.bytesOf e = 24) (bq : P.bytesOf q = 8)
    (h : DataW.trod enc P W base spare held fuel t cs = some x) :
    ∃ (v : Value) (ls : List (List Int)), cs = [v] ∧ Grid W v ls ∧ (∀ l ∈ ls, ∀ o ∈ l, -9223372036854775808 ≤ o ∧ o ≤ 9223372036854775807) ∧
      ((∀ n ∈ x.1.weights P t, n ≤ 140737488351232) → ls.length * 24 ≤ 140737488351232 ∧ ∀ l ∈ ls, l.length * 8 ≤ 140737488351232) ∧
      ((x.1 = .nil ∧ ls = []) ∨ ∃ el rest, x.1 = .slice el rest ∧ el.length = ls.length ∧ ∀ (i : Nat) (l : List Int) (d : DataW H), ls[i]? = some l → el[i]? = some d → ∃ u, RowD W u l d) := by
  obtain ⟨v, vs, rfl, hv, hd⟩ := sl_of_trod1 (α := Value) (ce := one) (Q := fun u d => ∃ l : List Int, RowD W u l d) ht ce (by decide) (fun _ => rfl)
    (fun n cs x hx => by
      obtain ⟨u, l, rfl, hr⟩ := open_row he hq cq hx
      exact ⟨u, rfl, l, hr⟩) h
  rcases hd with ⟨hx, rfl⟩ | ⟨el, rest, hx, hel, hq'⟩
  · exact ⟨v, [], rfl, ⟨[], hv, rfl, by simp⟩, by simp, fun _ => ⟨by simp, by simp⟩, .inl ⟨hx, rfl⟩⟩
  · obtain ⟨ls, hll, hls⟩ := list_of (fun i (l : List Int) => ∀ u d, vs[i]? = some u → el[i]? = some d → RowD W u l d) vs.length (fun i hi => by
      obtain ⟨l, hl⟩ := hq' i vs[i] el[i] (List.getElem?_eq_getElem hi) (List.getElem?_eq_getElem (by omega))
      exact ⟨l, fun u d hu hd => by rw [List.getElem?_eq_getElem hi] at hu; rw [List.getElem?_eq_getElem (by omega)] at hd; cases hu; cases hd; exact hl⟩)
    have at_ : ∀ (i : Nat) (l : List Int), ls[i]? = some l → ∃ u d, vs[i]? = some u ∧ el[i]? = some d ∧ RowD W u l d := fun i l hi => by
      have hiv : i < vs.length := by have := (List.getElem?_eq_some_iff.1 hi).1; omega
      exact ⟨vs[i], el[i], List.getElem?_eq_getElem hiv, List.getElem?_eq_getElem (by omega), hls i l hi _ _ (List.getElem?_eq_getElem hiv) (List.getElem?_eq_getElem (by omega))⟩
    refine ⟨v, ls, rfl, ⟨vs, hv, hll.symm, fun i u l hu hl => ?_⟩, fun l hl o ho => ?_, fun hw => ?_, .inr ⟨el, rest, hx, by omega, fun i l d hl hd => ?_⟩⟩
    · obtain ⟨u', d, hu', _, hr⟩ := at_ i l hl
      rw [hu] at hu'; cases hu'; exact hr.1
    · obtain ⟨i, hi⟩ := List.getElem?_of_mem hl
      obtain ⟨u', d, _, _, hr⟩ := at_ i l hi
      exact hr.2.1 o ho
    · rw [hx] at hw
      simp only [DataW.weights, ht, be, List.mem_cons, List.mem_append] at hw
      refine ⟨?_, fun l hl => ?_⟩
      · have := hw _ (.inl rfl)
        exact Nat.le_trans (Nat.mul_le_mul_right 24 (by omega)) this
      · obtain ⟨i, hi⟩ := List.getElem?_of_mem hl
        obtain ⟨u', d, _, hd, hr⟩ := at_ i l hi
        exact row_weight he bq hr fun n hn => hw n (.inr (.inl (weights_all hd n hn)))
    · obtain ⟨u', d', _, hd', hr⟩ := at_ i l hl
      rw [hd] at hd'; cases hd'; exact ⟨u', hr⟩
end
end Go.Proofs.YtffdgkofolomlaaDoor
