/- Layer bag: plain facts for the laws. No program in this text. -/
import Derived.Test.YtpffknlbffnafaaBagN
namespace Go.Proofs.Ytpffknlbffnafaa

theorem same_refl (a : List Int) : sameB a a = true := same_iff.2 fun _ => rfl
theorem same_comm (a b : List Int) : sameB a b = sameB b a := by
  rw [Bool.eq_iff_iff, same_iff, same_iff]
  exact ⟨fun h o => (h o).symm, fun h o => (h o).symm⟩
theorem same_trans {a b c : List Int} (h : sameB a b = true) (k : sameB b c = true) : sameB a c = true := same_iff.2 fun o => (same_iff.1 h o).trans (same_iff.1 k o)
theorem same_len {a b : List Int} (h : sameB a b = true) : a.length = b.length := len_of_count (same_iff.1 h)
theorem same_perm {a b : List Int} (h : sameB a b = true) : a.Perm b := List.perm_iff_count.2 (same_iff.1 h)
theorem same_add (a : List Int) (o : Int) : sameB a (addB a o 1) = false := by
  rw [← Bool.not_eq_true, same_iff]
  intro h
  have := h o
  rw [add_count, if_pos rfl] at this
  simp at this
theorem same_norm (a : List Int) : sameB (normB a) a = true := same_iff.2 fun o => norm_count a o
theorem add_len (b : List Int) (o n : Int) : (addB b o n).length + min (b.count o) (-n).toNat = b.length + min n.toNat 1000 := by
  unfold addB
  rw [norm_len, List.length_append, List.length_replicate]
  have : ∀ (k : Nat) (l : List Int), (delB o k l).length + min (l.count o) k = l.length := fun k l => by
    induction l generalizing k with
    | nil => simp [delB]
    | cons x l ih =>
      unfold delB
      split
      · rename_i h
        obtain ⟨rfl, hk⟩ := h
        have := ih (k - 1)
        rw [List.count_cons_self]; simp only [List.length_cons]; omega
      · rename_i h
        have := ih k
        rw [List.count_cons, List.length_cons, List.length_cons]
        by_cases e : x = o
        · have hk : k = 0 := by
            rcases Nat.eq_zero_or_pos k with h0 | h0
            · exact h0
            · exact absurd ⟨e, h0⟩ h
          subst hk; simp at this ⊢; omega
        · have e2 : (x == o) = false := by simp [e]
          simp [e2] at this ⊢; omega
  have := this (-n).toNat b
  omega
theorem sum_len (a b : List Int) : (sumB a b).length = a.length + b.length := by unfold sumB; rw [norm_len, List.length_append]
theorem sum_same (a b : List Int) : sameB (sumB a b) (sumB b a) = true := same_iff.2 fun o => by rw [sum_count, sum_count]; omega
/-- what was summed is left when one part is taken out -/
theorem less_sum1 (a b : List Int) : ∃ l, lessB (sumB a b) a = some l ∧ sameB l b = true := by
  obtain ⟨l, h1, _, h3⟩ := less_some (a := sumB a b) (b := a) fun o => by rw [sum_count]; omega
  exact ⟨l, h1, same_iff.2 fun o => by rw [h3, sum_count]; omega⟩
theorem less_sum2 (a b : List Int) : ∃ l, lessB (sumB a b) b = some l ∧ sameB l a = true := by
  obtain ⟨l, h1, _, h3⟩ := less_some (a := sumB a b) (b := b) fun o => by rw [sum_count]; omega
  exact ⟨l, h1, same_iff.2 fun o => by rw [h3, sum_count]; omega⟩
/-- all of b is there so often -/
def enough (a b : List Int) : Bool := b.all fun x => decide (b.count x ≤ a.count x)
theorem less_yes {a b : List Int} (h : enough a b = true) : ∃ l, lessB a b = some l ∧ sameB (sumB l b) a = true ∧ l.length + b.length = a.length := by
  have hle : ∀ o, b.count o ≤ a.count o := fun o => by
    by_cases ho : o ∈ b
    · have := List.all_eq_true.1 h o ho
      simpa using this
    · rw [List.count_eq_zero.2 ho]; omega
  obtain ⟨l, h1, _, h3⟩ := less_some hle
  have hs : sameB (sumB l b) a = true := same_iff.2 fun o => by rw [sum_count, h3]; have := hle o; omega
  refine ⟨l, h1, hs, ?_⟩
  have := same_len hs
  rw [sum_len] at this
  exact this
theorem less_no {a b : List Int} (h : enough a b = false) : lessB a b = none := by
  unfold enough at h
  rw [List.all_eq_false] at h
  obtain ⟨x, _, hx⟩ := h
  exact less_none ⟨x, by simpa using hx⟩
/-- of the first k all are there so often -/
def pre (a b : List Int) (k : Nat) : Bool := (b.take k).all fun x => decide (b.count x ≤ a.count x)
theorem pre_zero (a b : List Int) : pre a b 0 = true := rfl
theorem pre_end (a b : List Int) : pre a b b.length = enough a b := by unfold pre enough; rw [List.take_length]
theorem pre_succ (a b : List Int) {k : Nat} (h : k < b.length) : pre a b (k + 1) = (pre a b k && decide (b.count b[k] ≤ a.count b[k])) := by
  unfold pre
  rw [List.take_succ_eq_append_getElem h, List.all_append]; simp
/-- one that is added so often -/
theorem adds_back (a : List Int) (o : Int) (k : Nat) (hk : k ≤ 1000) : sameB (addB (addB a o k) o (-(k : Int))) a = true := same_iff.2 fun p => by
  rw [add_count, add_count, add_count]
  by_cases e : p = o
  · subst e; rw [if_pos rfl, if_pos rfl]; omega
  · rw [if_neg e, if_neg e]
theorem adds_up (a : List Int) (o : Int) (k : Nat) (hk : k ≤ 1000) : (((addB a o k).count o : Nat) : Int) = (a.count o : Nat) + (k : Int) := by
  rw [add_count, if_pos rfl]; omega
theorem adds_down (a : List Int) (o : Int) (k : Nat) : (((addB a o (-(k : Int))).count o : Nat) : Int) = max (((a.count o : Nat) : Int) - k) 0 := by
  rw [add_count, if_pos rfl]; omega
theorem adds_len (a : List Int) (o : Int) (k : Nat) : (((addB a o (-(k : Int))).length : Nat) : Int) = (a.length : Int) - min ((a.count o : Nat) : Int) k := by
  have h := add_len a o (-(k : Int))
  have h2 : a.count o ≤ a.length := List.count_le_length
  omega
theorem adds_none (a : List Int) (o : Int) (n : Int) (h : n = -4611686018427387904) (hl : a.length ≤ 17592186044416) : (addB a o n).count o = 0 := by
  have h2 : a.count o ≤ a.length := List.count_le_length
  rw [add_count, if_pos rfl, h]; omega
theorem rises_at {l : List Int} (h : Rises l) {i : Nat} (h1 : i + 1 < l.length) : l[i] ≤ l[i + 1] := List.pairwise_iff_getElem.1 h i (i + 1) (by omega) h1 (by omega)
end Go.Proofs.Ytpffknlbffnafaa
