/- Layer deque: a step turns one cell at most, none outside the deque. No program in this text. -/
import Derived.Test.YtpffknlbffnafaaDequeP
namespace Go.Proofs.Ytpffknlbffnafaa

theorem s64_rng (x : Int) : -9223372036854775808 ≤ s64 x ∧ s64 x ≤ 9223372036854775807 := by unfold s64; omega
/-- m, but for one cell of the deque -/
def OneIn (m m' : List Int) (d : Mc) : Prop := m' = m ∨ ∃ (j : Nat) (v : Int), j < m.length ∧ m' = m.set j v ∧ d.base ≤ (j : Int) ∧ s64 ((j : Int) - d.base - 2) < capF d
section
variable {m : List Int} {d : Mc}
theorem set_in {a : Int} {k : Int} (hk : k = 2 ∨ k = 3) (x y : Int) (h : 0 ≤ a → a < (m.length : Int) → d.base ≤ a ∧ s64 (a - d.base - 2) < capF d) : OneIn m (mF m ⟨k, a, x, y⟩) d := by
  by_cases ha : 0 ≤ a ∧ a < (m.length : Int)
  · obtain ⟨h1, h2⟩ := h ha.1 ha.2
    have hon := at_on (m := m) (o := ⟨k, a, x, y⟩) ⟨by simp only; omega, ha.1, ha.2⟩
    rw [hon.2.2]
    refine .inr ⟨a.toNat, _, by omega, rfl, by omega, ?_⟩
    rw [show ((a.toNat : Nat) : Int) = a by omega]
    exact h2
  · have hoff := at_off (m := m) (o := ⟨k, a, x, y⟩) (fun h => ha ⟨h.2.1, h.2.2⟩)
    exact .inl hoff.2.2
theorem cap_pos (d : Mc) : 1 ≤ capF d := by unfold capF; omega
theorem top_in : d.base ≤ d.base ∧ s64 (d.base - d.base - 2) < capF d := by
  have := cap_pos d
  refine ⟨Int.le_refl _, ?_⟩
  rw [show d.base - d.base - 2 = -2 by omega, s64_small (by decide) (by decide)]
  omega
theorem bottom_in (hb : -9223372036854775808 ≤ d.base ∧ d.base ≤ 9223372036854775807) (h0 : 0 ≤ bottomC d) : d.base ≤ bottomC d ∧ s64 (bottomC d - d.base - 2) < capF d := by
  have hc := cap_pos d
  have e : bottomC d = d.base + 1 := by
    unfold bottomC s64 at *
    omega
  rw [e]
  refine ⟨by omega, ?_⟩
  rw [show d.base + 1 - d.base - 2 = -1 by omega, s64_small (by decide) (by decide)]
  omega
theorem place_in (hb : -9223372036854775808 ≤ d.base ∧ d.base ≤ 9223372036854775807) (hcap : d.cap ≤ 9223372036854775807) (i : Int) (h0 : 0 ≤ placeC d i) : d.base ≤ placeC d i ∧ s64 (placeC d i - d.base - 2) < capF d := by
  have hc := cap_pos d
  have hc2 : capF d ≤ 9223372036854775807 := by unfold capF; omega
  have h1 := Int.emod_nonneg i (b := capF d) (by omega)
  have h2 := Int.emod_lt_of_pos i (b := capF d) (by omega)
  unfold placeC at h0 ⊢
  generalize i % capF d = k at *
  generalize capF d = c at *
  have e : s64 (d.base + 2 + k) = d.base + 2 + k := by
    unfold s64 at *
    omega
  rw [e]
  refine ⟨by omega, ?_⟩
  rw [show d.base + 2 + k - d.base - 2 = k by omega, s64_small (by omega) (by omega)]
  exact h2
theorem step_in (hb : -9223372036854775808 ≤ d.base ∧ d.base ≤ 9223372036854775807) (hcap : d.cap ≤ 9223372036854775807) :
    OneIn m (stepF m d).1 d ∧ (stepF m d).2.kind = d.kind ∧ (stepF m d).2.base = d.base ∧ (stepF m d).2.cap = d.cap ∧ (d.out ≠ 0 → stepF m d = (m, d)) := by
  have hbot := fun v => set_in (m := m) (d := d) (a := bottomC d) (k := 2) (.inl rfl) v 0 fun h _ => bottom_in hb h
  have hpl := fun i v => set_in (m := m) (d := d) (a := placeC d i) (k := 2) (.inl rfl) v 0 fun h _ => place_in hb hcap i h
  have htop := fun x y => set_in (m := m) (d := d) (a := d.base) (k := 3) (.inr rfl) x y fun _ _ => top_in
  have no : OneIn m m d := .inl rfl
  unfold stepF
  by_cases ho : d.out ≠ 0
  · rw [if_pos ho]; exact ⟨no, rfl, rfl, rfl, fun _ => rfl⟩
  · rw [if_neg ho]
    by_cases h1 : d.kind = 1
    · rw [if_pos h1]
      unfold pushF
      split
      · exact ⟨no, rfl, rfl, rfl, fun h => absurd h ho⟩
      · split
        · exact ⟨no, rfl, rfl, rfl, fun h => absurd h ho⟩
        · split
          · exact ⟨hpl _ _, rfl, rfl, rfl, fun h => absurd h ho⟩
          · split
            · exact ⟨hbot _, rfl, rfl, rfl, fun h => absurd h ho⟩
            · exact ⟨no, rfl, rfl, rfl, fun h => absurd h ho⟩
    · rw [if_neg h1]
      by_cases h2 : d.kind = 2
      · rw [if_pos h2]
        unfold popF
        repeat' split
        all_goals first
          | exact ⟨no, rfl, rfl, rfl, fun h => absurd h ho⟩
          | exact ⟨hbot _, rfl, rfl, rfl, fun h => absurd h ho⟩
          | exact ⟨htop _ _, rfl, rfl, rfl, fun h => absurd h ho⟩
      · rw [if_neg h2]
        by_cases h3 : d.kind = 3
        · rw [if_pos h3]
          unfold stealF
          repeat' split
          all_goals first
            | exact ⟨no, rfl, rfl, rfl, fun h => absurd h ho⟩
            | exact ⟨htop _ _, rfl, rfl, rfl, fun h => absurd h ho⟩
        · rw [if_neg h3]; exact ⟨no, rfl, rfl, rfl, fun h => absurd h ho⟩
theorem OneIn.len {m' : List Int} (h : OneIn m m' d) : m'.length = m.length := by
  rcases h with rfl | ⟨j, v, _, rfl, _⟩
  · rfl
  · simp
/-- what is turned, of the first so many -/
def turnedF (m m' : List Int) (k : Nat) : Nat := ((List.range k).filter fun i => m'.getD i 0 != m.getD i 0).length
theorem turned_same (m : List Int) (k : Nat) : turnedF m m k = 0 := by
  unfold turnedF
  rw [List.filter_eq_nil_iff.2 (fun i _ => by simp)]; rfl
theorem turned_set {j : Nat} {v : Int} (hj : j < m.length) (k : Nat) : turnedF m (m.set j v) k ≤ 1 := by
  unfold turnedF
  have : (List.range k).filter (fun i => (m.set j v).getD i 0 != m.getD i 0) = (List.range k).filter fun i => decide (i = j) && (v != m.getD j 0) := by
    apply List.filter_congr
    intro i _
    by_cases e : i = j
    · subst e
      rw [List.getD_eq_getElem?_getD, List.getElem?_set_self hj]; simp
    · rw [List.getD_eq_getElem?_getD, List.getElem?_set_ne (fun h => e h.symm), ← List.getD_eq_getElem?_getD]; simp [e]
  rw [this]
  have hn : ((List.range k).filter fun i => decide (i = j) && (v != m.getD j 0)).Nodup := List.Pairwise.filter _ List.nodup_range
  generalize hL : ((List.range k).filter fun i => decide (i = j) && (v != m.getD j 0)) = L at *
  match L, hn with
  | [], _ => simp
  | [a], _ => simp
  | a :: b :: r, hn =>
    have ha : a ∈ (List.range k).filter fun i => decide (i = j) && (v != m.getD j 0) := by rw [hL]; simp
    have hb : b ∈ (List.range k).filter fun i => decide (i = j) && (v != m.getD j 0) := by rw [hL]; simp
    rw [List.mem_filter] at ha hb
    have e1 : a = j := by have := ha.2; simp at this; exact this.1
    have e2 : b = j := by have := hb.2; simp at this; exact this.1
    subst e1; subst e2
    simp at hn
theorem turned_le {m' : List Int} (h : OneIn m m' d) (k : Nat) : turnedF m m' k ≤ 1 := by
  rcases h with rfl | ⟨j, v, hj, rfl, _⟩
  · rw [turned_same]; omega
  · exact turned_set hj k
theorem turned_succ (m m' : List Int) (k : Nat) : turnedF m m' (k + 1) = turnedF m m' k + if m'.getD k 0 = m.getD k 0 then 0 else 1 := by
  unfold turnedF
  rw [List.range_succ, List.filter_append, List.length_append]
  congr 1
  by_cases h : m'.getD k 0 = m.getD k 0
  · have e : (m'.getD k 0 != m.getD k 0) = false := by rw [bne_eq_false_iff_eq]; exact h
    rw [List.filter_cons_of_neg (by rw [e]; decide), if_pos h]; rfl
  · have e : (m'.getD k 0 != m.getD k 0) = true := by rw [bne_iff_ne]; exact h
    rw [List.filter_cons_of_pos (by rw [e]), if_neg h]; rfl
end
end Go.Proofs.Ytpffknlbffnafaa
