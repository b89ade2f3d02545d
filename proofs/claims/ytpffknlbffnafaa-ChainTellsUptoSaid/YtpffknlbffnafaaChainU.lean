/- Layer chain: a step turns one cell at most. No program in this text. -/
import Derived.Test.YtpffknlbffnafaaChainP
import Derived.Test.YtpffknlbffnafaaDequeU
namespace Go.Proofs.Ytpffknlbffnafaa

/-- m, but for one cell -/
def OneAny (m m' : List Int) : Prop := m' = m ∨ ∃ (j : Nat) (v : Int), j < m.length ∧ m' = m.set j v
section
variable {m : List Int} {c : Cm}
theorem any_set (k a x y : Int) (hk : k = 2 ∨ k = 3) : OneAny m (mF m ⟨k, a, x, y⟩) := by
  by_cases ha : 0 ≤ a ∧ a < (m.length : Int)
  · have hon := at_on (m := m) (o := ⟨k, a, x, y⟩) ⟨by simp only; omega, ha.1, ha.2⟩
    rw [hon.2.2]
    exact .inr ⟨a.toNat, _, by omega, rfl⟩
  · have hoff := at_off (m := m) (o := ⟨k, a, x, y⟩) (fun h => ha ⟨h.2.1, h.2.2⟩)
    exact .inl hoff.2.2
theorem OneAny.len {m' : List Int} (h : OneAny m m') : m'.length = m.length := by
  rcases h with rfl | ⟨j, v, _, rfl⟩
  · rfl
  · simp
theorem OneAny.turned {m' : List Int} (h : OneAny m m') (k : Nat) : turnedF m m' k ≤ 1 := by
  rcases h with rfl | ⟨j, v, hj, rfl⟩
  · rw [turned_same]; omega
  · exact turned_set hj k
theorem cstep_one : OneAny m (cstepF m c).1 ∧ (cstepF m c).2.kind = c.kind ∧ (cstepF m c).2.head = c.head ∧ (cstepF m c).2.next = c.next ∧ (c.out ≠ 0 → cstepF m c = (m, c)) := by
  have no : OneAny m m := .inl rfl
  have st : ∀ a v, OneAny m (storeF m a v) := fun a v => any_set 2 a v 0 (.inl rfl)
  have sw : ∀ a x y, OneAny m (swapF m a x y) := fun a x y => any_set 3 a x y (.inr rfl)
  unfold cstepF
  by_cases ho : c.out ≠ 0
  · rw [if_pos ho]; exact ⟨no, rfl, rfl, rfl, fun _ => rfl⟩
  · rw [if_neg ho]
    by_cases h1 : c.kind = 1
    · rw [if_pos h1]
      unfold cpushF
      repeat' split
      all_goals first
        | exact ⟨no, rfl, rfl, rfl, fun h => absurd h ho⟩
        | exact ⟨st _ _, rfl, rfl, rfl, fun h => absurd h ho⟩
        | exact ⟨sw _ _ _, rfl, rfl, rfl, fun h => absurd h ho⟩
    · rw [if_neg h1]
      by_cases h2 : c.kind = 2
      · rw [if_pos h2]
        unfold cpopF
        repeat' split
        all_goals first
          | exact ⟨no, rfl, rfl, rfl, fun h => absurd h ho⟩
          | exact ⟨sw _ _ _, rfl, rfl, rfl, fun h => absurd h ho⟩
      · rw [if_neg h2]; exact ⟨no, rfl, rfl, rfl, fun h => absurd h ho⟩
end
end Go.Proofs.Ytpffknlbffnafaa
