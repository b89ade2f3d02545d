/- Layer deque: alone it is a list, round by round. No program in this text. -/
import Derived.Test.YthjdjkcdlknhbaaDequeA
import Derived.Test.YthjdjkcdlknhbaaDequeStepU
namespace Go.Proofs.Ythjdjkcdlknhbaa

def Al (cap X : Nat) (M list : List Int) : Prop := ∃ t bt ps, Alone cap (X + 1) M t bt ps ∧ list = its ps t bt
section
variable {cap X : Nat} {M list : List Int}
theorem al_start (h1 : 1 ≤ cap) (h2 : cap ≤ 64) : Al cap 0 (cellsF cap) [] := by
  refine ⟨1, 1, List.replicate cap 0, ?_, (its_nil (Nat.le_refl _)).symm⟩
  have e : cellsF cap = 1 :: 1 :: List.replicate cap 0 := by
    unfold cellsF
    rw [show (min (max (cap : Int) 1) 64).toNat = cap by omega]
  rw [e]
  exact alone_start h1 h2
theorem al_len (h : Al cap X M list) : list.length ≤ cap := by
  obtain ⟨t, bt, ps, h, rfl⟩ := h
  rw [its_len]
  have := h.rm
  omega
theorem al_full (h : Al cap X M list) (hX : X ≤ 100) (hl : list.length = cap) : ∃ D N, runF 20 M (startF 1 0 cap ((X : Int) + 1)) = (M, D, N) ∧ D.out = 3 ∧ D.x = (X : Int) + 1 ∧ Al cap (X + 1) M list := by
  obtain ⟨t, bt, ps, h, rfl⟩ := h
  rw [its_len] at hl
  exact ⟨_, _, alone_full h (by omega) (by have := h.tb; omega), rfl, rfl, t, bt, ps, h.up, rfl⟩
theorem al_push (h : Al cap X M list) (hX : X ≤ 100) (hl : list.length ≠ cap) : ∃ M' D N, runF 20 M (startF 1 0 cap ((X : Int) + 1)) = (M', D, N) ∧ D.out = 1 ∧ D.x = (X : Int) + 1 ∧ Al cap (X + 1) M' (list ++ [(X : Int) + 1]) := by
  have hle := al_len h
  obtain ⟨t, bt, ps, h, rfl⟩ := h
  rw [its_len] at hl hle
  obtain ⟨m', h1, h2, h3⟩ := alone_push (x := (X : Int) + 1) h (by omega) (by have := h.tb; omega) (by omega) (by omega)
  exact ⟨m', _, _, h1, rfl, rfl, t, bt + 1, _, h2, h3.symm⟩
theorem al_pop0 (h : Al cap X M []) (hX : X ≤ 100) (x : Int) : ∃ D N, runF 20 M (startF 2 0 cap x) = (M, D, N) ∧ D.out = 2 ∧ D.x = 0 ∧ Al cap (X + 1) M [] := by
  obtain ⟨t, bt, ps, h, hl⟩ := h
  have hb : bt = t := by
    have := congrArg List.length hl
    rw [its_len] at this
    have := h.tb
    simp at *
    omega
  obtain ⟨d, n, h1, h2, h3, -⟩ := alone_pop_none (x := x) h (by omega) hb
  exact ⟨d, n, h1, h2, h3, t, bt, ps, h.up, hl⟩
theorem al_pop (h : Al cap X M list) (hX : X ≤ 100) (hl : list ≠ []) (x : Int) : ∃ M' D N l' y, list = l' ++ [y] ∧ runF 20 M (startF 2 0 cap x) = (M', D, N) ∧ D.out = 1 ∧ D.x = y ∧ Al cap (X + 1) M' l' := by
  obtain ⟨t, bt, ps, h, rfl⟩ := h
  have hb : t < bt := by
    rcases Nat.lt_or_ge t bt with hb | hb
    · exact hb
    · exact absurd (its_nil hb) hl
  obtain ⟨d, n, m', t', bt', y, h1, h2, h3, -, h4, h5⟩ := alone_pop (x := x) h (by omega) hb
  exact ⟨m', d, n, its ps t' bt', y, h5, h1, h2, h3, t', bt', ps, h4.up, rfl⟩
theorem al_steal0 (h : Al cap X M []) (hX : X ≤ 100) (x : Int) : ∃ D N, runF 20 M (startF 3 0 cap x) = (M, D, N) ∧ D.out = 2 ∧ D.x = x ∧ Al cap (X + 1) M [] := by
  obtain ⟨t, bt, ps, h, hl⟩ := h
  have hb : bt = t := by
    have := congrArg List.length hl
    rw [its_len] at this
    have := h.tb
    simp at *
    omega
  obtain ⟨d, h1, h2, -, h3⟩ := alone_steal_none (x := x) h (by omega) hb
  exact ⟨d, _, h1, h2, h3, t, bt, ps, h.up, hl⟩
theorem al_steal (h : Al cap X M list) (hX : X ≤ 100) (hl : list ≠ []) (x : Int) : ∃ M' D N l' y, list = y :: l' ∧ runF 20 M (startF 3 0 cap x) = (M', D, N) ∧ D.out = 1 ∧ D.x = y ∧ Al cap (X + 1) M' l' := by
  obtain ⟨t, bt, ps, h, rfl⟩ := h
  have hb : t < bt := by
    rcases Nat.lt_or_ge t bt with hb | hb
    · exact hb
    · exact absurd (its_nil hb) hl
  obtain ⟨d, m', y, h1, h2, h3, -, h4, h5⟩ := alone_steal (x := x) h (by omega) hb
  exact ⟨m', d, _, its ps (t + 1) bt, y, h5, h1, h2, h3, t + 1, bt, ps, h4.up, rfl⟩
theorem al_items (h : Al cap X M list) (hX : X ≤ 200) {o : Mc} (ho : o.out ≠ 0 ∨ o.kind ≠ 2) : itemsF M 0 cap o = list := by
  obtain ⟨t, bt, ps, h, rfl⟩ := h
  exact alone_items h (by omega) (by unfold extF; rw [decide_eq_false]; rintro ⟨h1, h2, -⟩; rcases ho with h | h <;> contradiction)
end
end Go.Proofs.Ythjdjkcdlknhbaa
