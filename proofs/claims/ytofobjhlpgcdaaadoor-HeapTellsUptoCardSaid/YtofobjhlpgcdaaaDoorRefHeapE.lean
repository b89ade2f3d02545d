/- Layer heap: the document's own answer: copied. -/
import Derived.Test.YtofobjhlpgcdaaaDoorHeapAlloc
namespace Go.Proofs.YtofobjhlpgcdaaaDoor
open Go.RowKit

/-- the boxes of a copy under way: the parameter, the result, what is told -/
def Bx (S : Nat) (n : Int) (v u : Value) (w : World) : Prop :=
  (w.cell? ⟨S, 0, none⟩ = some (.int .i64 n) ∧ w.cell? ⟨S, 1, none⟩ = some v) ∧
  (w.cell? ⟨S + 1, 0, none⟩ = some (.int .i64 0) ∧ w.cell? ⟨S + 1, 1, none⟩ = some (.slice none 0 0) ∧ w.frozen? ⟨S + 1, 0, none⟩ = false ∧ w.frozen? ⟨S + 1, 1, none⟩ = false) ∧
  (w.cell? ⟨S + 2, 0, none⟩ = some (.int .i64 n) ∧ w.cell? ⟨S + 2, 1, none⟩ = some u ∧ w.frozen? ⟨S + 2, 0, none⟩ = false ∧ w.frozen? ⟨S + 2, 1, none⟩ = false)
theorem Bx.grown {S : Nat} {n : Int} {v u : Value} {w w' : World} {row : Option Nat} (h : Bx S n v u w) (hg : w.grownBy w' row) (hr : ∀ b, row = some b → S + 3 ≤ b) : Bx S n v u w' := by
  obtain ⟨⟨a0, a1⟩, ⟨b0, b1, b2, b3⟩, ⟨c0, c1, c2, c3⟩⟩ := h
  have n0 : row ≠ some S := fun e => by have := hr _ e; omega
  have n1 : row ≠ some (S + 1) := fun e => by have := hr _ e; omega
  have n2 : row ≠ some (S + 2) := fun e => by have := hr _ e; omega
  exact ⟨⟨keepg hg a0 n0, keepg hg a1 n0⟩, ⟨keepg hg b0 n1, keepg hg b1 n1, keepgf hg b0 b2 n1, keepgf hg b1 b3 n1⟩, ⟨keepg hg c0 n2, keepg hg c1 n2, keepgf hg c0 c2 n2, keepgf hg c1 c3 n2⟩⟩
theorem OwnGrid.snoc {T U : TypeId} {base H : Nat} {w w' : World} {v v' u : Value} {vs : List Value} {ls : List (List Int)} {l : List Int} (h : OwnGrid T U base w v vs ls) (hTU : U ≠ T) (hbH : base ≤ H) (hold : ∀ (i : Nat) (u' : Value) (g : Nat), vs[i]? = some u' → u'.ownBlock = some g → g < H)
    (hu : w.ownsRow H U 1 u l.length (l.flatMap ic)) (ht : w'.ownsRow base T 1 v' (vs.length + 1) (vs ++ [u])) (hg : w.grownBy w' v.ownBlock) : OwnGrid T U base w' v' (vs ++ [u]) (ls ++ [l]) := by
  have hR := OwnRows.snoc (fun e => hTU e.symm) h.len h.top h.rows (own_base hu hbH) ht hg
  have hrows : ∀ (i : Nat) (u' : Value) (l' : List Int), (vs ++ [u])[i]? = some u' → (ls ++ [l])[i]? = some l' → w'.ownsRow base U 1 u' l'.length (l'.flatMap ic) := by
    intro i u' l' hu' hl'
    have hk : ∀ {u0 : Value} {l0 : List Int} {b0 : Nat}, w.ownsRow b0 U 1 u0 l0.length (l0.flatMap ic) → w'.ownsRow b0 U 1 u0 l0.length (l0.flatMap ic) := fun {u0 l0 b0} h0 => h0.kept hg (by
      rcases e : v.ownBlock with _ | b
      · cases u0.ownBlock <;> simp
      · refine .inr ?_
        rcases h.top.2 with ⟨e0, _⟩ | ⟨g, cap, cur, e0, _, hgg, _⟩
        · rw [e0] at e; simp [Value.ownBlock] at e
        · rw [e0] at e
          simp only [Value.ownBlock, Option.some.injEq] at e
          subst e
          exact own_type h0 hgg hTU)
    by_cases hi : i < vs.length
    · rw [List.getElem?_append_left hi] at hu'
      rw [List.getElem?_append_left (by rw [← h.len]; exact hi)] at hl'
      exact hk (h.rows i u' l' hu' hl')
    · have hlt : i < (vs ++ [u]).length := (List.getElem?_eq_some_iff.1 hu').1
      rw [List.length_append] at hlt
      obtain rfl : i = vs.length := by simp at hlt; omega
      rw [List.getElem?_concat_length] at hu'
      rw [h.len, List.getElem?_concat_length] at hl'
      cases hu'; cases hl'
      exact own_base (hk hu) hbH
  have hlen : (vs ++ [u]).length = (ls ++ [l]).length := by rw [List.length_append, List.length_append, h.len]; rfl
  have hnew : ∀ g, u.ownBlock = some g → H ≤ g := fun g e => (hu.lt g e).1
  have hsplit : ∀ (i : Nat) (u' : Value), (vs ++ [u])[i]? = some u' → (i < vs.length ∧ vs[i]? = some u') ∨ (i = vs.length ∧ u' = u) := by
    intro i u' hi
    by_cases hlt : i < vs.length
    · rw [List.getElem?_append_left hlt] at hi; exact .inl ⟨hlt, hi⟩
    · have hl2 : i < (vs ++ [u]).length := (List.getElem?_eq_some_iff.1 hi).1
      rw [List.length_append] at hl2
      obtain rfl : i = vs.length := by simp at hl2; omega
      rw [List.getElem?_concat_length] at hi
      cases hi
      exact .inr ⟨rfl, rfl⟩
  refine ⟨by rw [List.length_append]; exact ht, hlen, hrows, fun i j u1 u2 g hij h1 h2 e1 e2 => ?_, fun i u1 g h1 e1 e2 => ?_⟩
  · rcases hsplit i u1 h1 with ⟨a1, a2⟩ | ⟨a1, a2⟩
    · rcases hsplit j u2 h2 with ⟨b1, b2⟩ | ⟨b1, b2⟩
      · exact h.apart i j u1 u2 g hij a2 b2 e1 e2
      · subst b2; have := hnew g e2; have := hold i u1 g a2 e1; omega
    · rcases hsplit j u2 h2 with ⟨b1, b2⟩ | ⟨b1, b2⟩
      · subst a2; have := hnew g e1; have := hold j u2 g b2 e2; omega
      · omega
  · have hlt : i < (ls ++ [l]).length := by rw [← hlen]; exact (List.getElem?_eq_some_iff.1 h1).1
    have hr := hrows i u1 _ h1 (List.getElem?_eq_getElem hlt)
    rcases ht.2 with ⟨e0, _⟩ | ⟨g', cap, cur, e0, _, hgg, _⟩
    · rw [e0] at e2; simp [Value.ownBlock] at e2
    · rw [e0] at e2
      simp only [Value.ownBlock, Option.some.injEq] at e2
      subst e2
      exact own_type hr hgg hTU e1
/-- append of a slice that came in, whatever it is, in a region that draws its order -/
theorem step_append_sl {P : Program} {α : Type} {enc : α → List Value} {ops : Array Oper} {o : Oper} {a : Act} {w : World} {K : Act → World → Prop} {Q : Exit → Act → World → Prop} {E : Prop} (hgd : o.guard = none) (s y : Operand) (t : TypeId)
    (ho : o.op = .call { callee := .builtin .append, args := #[s, y], argTypes := #[t, t] })
    (base : Nat) (e : TypeId) (i : TypeInfo) (z : Value) (size bytes : Nat) (ht : P.underlying t = some (.slice e)) (hi : P.info? e = some i) (hz : i.zero = some z)
    (hsize : i.size = size) (hby : i.bytes = bytes) (hzs : z.cells.size = size) (hsz : 0 < size)
    (v : Value) (n : Nat) (xs : List Value) (hs : a.eval s = v) (hown : w.ownsRow base e size v n xs) (x : Value) (l : List α) (hy : a.eval y = x) (hx : Sl enc size w x l) (henc : ∀ p, (enc p).length = size) (h1 : ∀ p, ∀ u ∈ enc p, u.oneCell' = true)
    (h63 : n + l.length ≤ maxLen) (hbytes : (n + l.length) * bytes ≤ 140737488355328) (hbase : base ≤ w.heap.size)
    (h : ∀ v' w', w'.ownsRow base e size v' (n + l.length) (xs ++ l.flatMap enc) → w.grownBy w' v.ownBlock → K (a.put o.dst v') w') :
    if Region.wanted o (yielded ops a.tmps) = true then Oper.wp P o a w K Q else E := by
  have hw : Region.wanted o (yielded ops a.tmps) = true := by simp [Region.wanted, hgd]
  rw [if_pos hw]
  obtain ⟨v', w', hrun, h2, h3⟩ := run_append_sl (P := P) w base t o.type e i z size bytes ht hi hz hsize hby hzs hsz v n xs hown x l hx henc h1 h63 hbytes hbase
  unfold Oper.wp execOp
  simp only [ho, resolve, invoke, builtin, Sem.run_bind, Sem.run_pure, Result.andThen_ok, List.map_toArray, List.map_cons, List.map_nil, hs, hy, hrun]
  exact h v' w' h2 h3
end Go.Proofs.YtofobjhlpgcdaaaDoor
