/- Layer deque: a machine that steps alone. No program in this text. -/
import Derived.Test.YthjdjkcdlknhbaaDequeT
namespace Go.Proofs.Ythjdjkcdlknhbaa

/-- a machine that steps alone, so often -/
def runF : Nat → List Int → Mc → List Int × Mc × Nat
  | 0, m, d => (m, d, 0)
  | k + 1, m, d => if d.out = 0 then ((runF k (stepF m d).1 (stepF m d).2).1, (runF k (stepF m d).1 (stepF m d).2).2.1, (runF k (stepF m d).1 (stepF m d).2).2.2 + 1) else (m, d, 0)
theorem run_stop (k : Nat) (m : List Int) (d : Mc) (h : d.out ≠ 0) : runF k m d = (m, d, 0) := by
  cases k with
  | zero => rfl
  | succ k => rw [runF, if_neg h]
theorem run_le : ∀ (k : Nat) (m : List Int) (d : Mc), (runF k m d).2.2 ≤ k
  | 0, _, _ => Nat.le_refl _
  | k + 1, m, d => by
    rw [runF]
    split
    · have := run_le k (stepF m d).1 (stepF m d).2
      simp only; omega
    · simp
/-- so many steps that were taken, one at a time: the next one -/
theorem run_snoc : ∀ (k : Nat) (m : List Int) (d : Mc), (runF k m d).2.1.out = 0 → (runF k m d).2.2 = k ∧ runF (k + 1) m d = ((stepF (runF k m d).1 (runF k m d).2.1).1, (stepF (runF k m d).1 (runF k m d).2.1).2, k + 1)
  | 0, m, d, h => by
    have h0 : d.out = 0 := h
    exact ⟨rfl, by simp [runF, h0]⟩
  | k + 1, m, d, h => by
    by_cases h0 : d.out = 0
    · rw [runF, if_pos h0] at h
      obtain ⟨h1, h2⟩ := run_snoc k _ _ h
      refine ⟨?_, ?_⟩
      · rw [runF, if_pos h0]; simp only; omega
      · rw [runF, if_pos h0, h2]
        have e : runF (k + 1) m d = ((runF k (stepF m d).1 (stepF m d).2).1, (runF k (stepF m d).1 (stepF m d).2).2.1, (runF k (stepF m d).1 (stepF m d).2).2.2 + 1) := by rw [runF, if_pos h0]
        rw [e]
    · rw [run_stop _ _ _ h0] at h
      exact absurd h h0
theorem run_over (k : Nat) (m : List Int) (d : Mc) (h : (runF k m d).2.1.out ≠ 0) : runF (k + 1) m d = runF k m d := by
  induction k generalizing m d with
  | zero => exact run_stop 1 m d h
  | succ k ih =>
    by_cases h0 : d.out = 0
    · rw [runF, if_pos h0] at h
      have := ih _ _ h
      rw [runF, if_pos h0, this]
      rw [show runF (k + 1) m d = ((runF k (stepF m d).1 (stepF m d).2).1, (runF k (stepF m d).1 (stepF m d).2).2.1, (runF k (stepF m d).1 (stepF m d).2).2.2 + 1) by rw [runF, if_pos h0]]
    · rw [run_stop _ _ _ h0, run_stop _ _ _ h0]

/-- comes to its end within k steps, further on -/
def Ends (k : Nat) (m : List Int) (d : Mc) : Prop := (runF k m d).2.1.out ≠ 0 ∧ d.pc < (runF k m d).2.1.pc
theorem ends_step {k : Nat} {m : List Int} {d : Mc} (h0 : d.out = 0) (h : (stepF m d).2.out ≠ 0 ∧ d.pc < (stepF m d).2.pc ∨ (d.pc < (stepF m d).2.pc ∧ Ends k (stepF m d).1 (stepF m d).2)) : Ends (k + 1) m d := by
  unfold Ends
  rw [runF, if_pos h0]
  rcases h with ⟨h1, h2⟩ | ⟨h1, h2, h3⟩
  · rw [run_stop _ _ _ h1]; exact ⟨h1, h2⟩
  · exact ⟨h2, by simp only; omega⟩
section
variable {m : List Int} {d : Mc}
theorem push3_ends (k : Nat) (hk : d.kind = 1) (ho : d.out = 0) (hp : d.pc = 3) : Ends (k + 1) m d :=
  ends_step ho (.inl (by simp [stepF, pushF, hk, ho, hp]))
theorem push2_ends (k : Nat) (hk : d.kind = 1) (ho : d.out = 0) (hp : d.pc = 2) : Ends (k + 2) m d := by
  have hs : (stepF m d).2 = { d with pc := 3 } := by simp [stepF, pushF, hk, ho, hp]
  exact ends_step ho (.inr ⟨by rw [hs]; simp only; omega, push3_ends k (by rw [hs]; exact hk) (by rw [hs]; exact ho) (by rw [hs])⟩)
theorem push1_ends (k : Nat) (hk : d.kind = 1) (ho : d.out = 0) (hp : d.pc = 1) : Ends (k + 3) m d := by
  have hs : (stepF m d).2 = { d with t := loadF m d.base, out := if capF d ≤ w64 (d.b - loadF m d.base) then 3 else d.out, pc := 2 } := by simp [stepF, pushF, hk, ho, hp]
  by_cases hc : capF d ≤ w64 (d.b - loadF m d.base)
  · exact ends_step ho (.inl (by rw [hs, if_pos hc]; simp only; omega))
  · rw [if_neg hc] at hs
    exact ends_step ho (.inr ⟨by rw [hs]; simp only; omega, push2_ends k (by rw [hs]; exact hk) (by rw [hs]; exact ho) (by rw [hs])⟩)
theorem push0_ends (k : Nat) (hk : d.kind = 1) (ho : d.out = 0) (hp : d.pc = 0) : Ends (k + 4) m d := by
  have hs : (stepF m d).2 = { d with b := loadF m (bottomC d), pc := 1 } := by simp [stepF, pushF, hk, ho, hp]
  exact ends_step ho (.inr ⟨by rw [hs]; simp only; omega, push1_ends k (by rw [hs]; exact hk) (by rw [hs]; exact ho) (by rw [hs])⟩)
theorem steal3_ends (k : Nat) (hk : d.kind = 3) (ho : d.out = 0) (hp : d.pc = 3) : Ends (k + 1) m d :=
  ends_step ho (.inl (by simp only [stepF, stealF, hk, ho, hp]; simp; split <;> decide))
theorem steal2_ends (k : Nat) (hk : d.kind = 3) (ho : d.out = 0) (hp : d.pc = 2) : Ends (k + 2) m d := by
  have hs : (stepF m d).2 = { d with x := s64 (loadF m (placeC d d.t)), pc := 3 } := by simp [stepF, stealF, hk, ho, hp]
  exact ends_step ho (.inr ⟨by rw [hs]; simp only; omega, steal3_ends k (by rw [hs]; exact hk) (by rw [hs]; exact ho) (by rw [hs])⟩)
theorem steal1_ends (k : Nat) (hk : d.kind = 3) (ho : d.out = 0) (hp : d.pc = 1) : Ends (k + 3) m d := by
  have hs : (stepF m d).2 = { d with b := loadF m (bottomC d), out := if s64 (loadF m (bottomC d) - d.t) ≤ 0 then 2 else d.out, pc := 2 } := by simp [stepF, stealF, hk, ho, hp]
  by_cases hc : s64 (loadF m (bottomC d) - d.t) ≤ 0
  · exact ends_step ho (.inl (by rw [hs, if_pos hc]; simp only; omega))
  · rw [if_neg hc] at hs
    exact ends_step ho (.inr ⟨by rw [hs]; simp only; omega, steal2_ends k (by rw [hs]; exact hk) (by rw [hs]; exact ho) (by rw [hs])⟩)
theorem steal0_ends (k : Nat) (hk : d.kind = 3) (ho : d.out = 0) (hp : d.pc = 0) : Ends (k + 4) m d := by
  have hs : (stepF m d).2 = { d with t := loadF m d.base, pc := 1 } := by simp [stepF, stealF, hk, ho, hp]
  exact ends_step ho (.inr ⟨by rw [hs]; simp only; omega, steal1_ends k (by rw [hs]; exact hk) (by rw [hs]; exact ho) (by rw [hs])⟩)
theorem pop6_ends (k : Nat) (hk : d.kind = 2) (ho : d.out = 0) (hp : d.pc = 6) : Ends (k + 1) m d :=
  ends_step ho (.inl (by simp [stepF, popF, hk, ho, hp]))
theorem pop5_ends (k : Nat) (hk : d.kind = 2) (ho : d.out = 0) (hp : d.pc = 5) : Ends (k + 1) m d :=
  ends_step ho (.inl (by simp [stepF, popF, hk, ho, hp]))
theorem pop4_ends (k : Nat) (hk : d.kind = 2) (ho : d.out = 0) (hp : d.pc = 4) : Ends (k + 2) m d := by
  have hs : (stepF m d).2 = { d with pc := if swapsF m d.base d.t (w64 (d.t + 1)) then 6 else 5 } := by simp [stepF, popF, hk, ho, hp]
  cases hc : swapsF m d.base d.t (w64 (d.t + 1))
  · rw [hc] at hs
    exact ends_step ho (.inr ⟨by rw [hs]; simp; omega, pop5_ends k (by rw [hs]; exact hk) (by rw [hs]; exact ho) (by rw [hs]; rfl)⟩)
  · rw [hc] at hs
    exact ends_step ho (.inr ⟨by rw [hs]; simp; omega, pop6_ends k (by rw [hs]; exact hk) (by rw [hs]; exact ho) (by rw [hs]; rfl)⟩)
theorem pop3_ends (k : Nat) (hk : d.kind = 2) (ho : d.out = 0) (hp : d.pc = 3) : Ends (k + 3) m d := by
  have hs : (stepF m d).2 = { d with x := s64 (loadF m (placeC d (w64 (d.b - 1)))), out := if d.t = w64 (d.b - 1) then d.out else 1, pc := 4 } := by simp [stepF, popF, hk, ho, hp]
  by_cases hc : d.t = w64 (d.b - 1)
  · rw [if_pos hc] at hs
    exact ends_step ho (.inr ⟨by rw [hs]; simp only; omega, pop4_ends k (by rw [hs]; exact hk) (by rw [hs]; exact ho) (by rw [hs])⟩)
  · exact ends_step ho (.inl (by rw [hs, if_neg hc]; simp only; omega))
theorem pop2_ends (k : Nat) (hk : d.kind = 2) (ho : d.out = 0) (hp : d.pc = 2) : Ends (k + 4) m d := by
  have hs : (stepF m d).2 = { d with t := loadF m d.base, pc := if 0 < s64 (loadF m d.base - w64 (d.b - 1)) then 5 else 3 } := by simp [stepF, popF, hk, ho, hp]
  by_cases hc : 0 < s64 (loadF m d.base - w64 (d.b - 1))
  · rw [if_pos hc] at hs
    exact ends_step ho (.inr ⟨by rw [hs]; simp only; omega, pop5_ends (k + 2) (by rw [hs]; exact hk) (by rw [hs]; exact ho) (by rw [hs])⟩)
  · rw [if_neg hc] at hs
    exact ends_step ho (.inr ⟨by rw [hs]; simp only; omega, pop3_ends k (by rw [hs]; exact hk) (by rw [hs]; exact ho) (by rw [hs])⟩)
theorem pop1_ends (k : Nat) (hk : d.kind = 2) (ho : d.out = 0) (hp : d.pc = 1) : Ends (k + 5) m d := by
  have hs : (stepF m d).2 = { d with pc := 2 } := by simp [stepF, popF, hk, ho, hp]
  exact ends_step ho (.inr ⟨by rw [hs]; simp only; omega, pop2_ends k (by rw [hs]; exact hk) (by rw [hs]; exact ho) (by rw [hs])⟩)
theorem pop0_ends (k : Nat) (hk : d.kind = 2) (ho : d.out = 0) (hp : d.pc = 0) : Ends (k + 6) m d := by
  have hs : (stepF m d).2 = { d with b := loadF m (bottomC d), pc := 1 } := by simp [stepF, popF, hk, ho, hp]
  exact ends_step ho (.inr ⟨by rw [hs]; simp only; omega, pop1_ends k (by rw [hs]; exact hk) (by rw [hs]; exact ho) (by rw [hs])⟩)
end
/-- an owner who goes on alone comes to its end in seven steps -/
theorem owner_ends {cap t bt e : Nat} {ps H : List Int} {nx : Int} {o : Mc} (h : Ph cap t bt ps nx o e H) (m : List Int) (ho : o.out = 0) : Ends 7 m o := by
  cases h with
  | idle _ hne => exact absurd ho hne
  | push0 => exact push0_ends 3 rfl rfl rfl
  | push1 => exact push1_ends 4 rfl rfl rfl
  | push2 => exact push2_ends 5 rfl rfl rfl
  | push3 => exact push3_ends 6 rfl rfl rfl
  | pop0 => exact pop0_ends 1 rfl rfl rfl
  | pop1 => exact pop1_ends 2 rfl rfl rfl
  | pop2 => exact pop2_ends 3 rfl rfl rfl
  | pop3a => exact pop3_ends 4 rfl rfl rfl
  | pop3b => exact pop3_ends 4 rfl rfl rfl
  | pop4 => exact pop4_ends 5 rfl rfl rfl
  | pop5 => exact pop5_ends 6 rfl rfl rfl
  | pop6 => exact pop6_ends 6 rfl rfl rfl
/-- one that steals, alone, in four -/
theorem thief_ends {cap t e : Nat} {ps : List Int} {d : Mc} (h : Th cap t e ps d) (m : List Int) : d.out = 0 ∧ Ends 4 m d := by
  cases h with
  | p0 => exact ⟨rfl, steal0_ends 0 rfl rfl rfl⟩
  | p1 => exact ⟨rfl, steal1_ends 1 rfl rfl rfl⟩
  | p2 => exact ⟨rfl, steal2_ends 2 rfl rfl rfl⟩
  | p3 => exact ⟨rfl, steal3_ends 3 rfl rfl rfl⟩
end Go.Proofs.Ythjdjkcdlknhbaa
