/- Layer bag: keys that rise, each as often as it is counted: the norm. -/
import Derived.Test.YtpffknlbffnafaaBagP
namespace Go.Proofs.Ytpffknlbffnafaa

def spread (c : Int → Nat) : List Int → List Int
  | [] => []
  | k :: ks => List.replicate (c k) k ++ spread c ks
theorem spread_append (c : Int → Nat) : ∀ a b : List Int, spread c (a ++ b) = spread c a ++ spread c b
  | [], _ => rfl
  | x :: a, b => by simp [spread, spread_append c a b]
theorem spread_take (c : Int → Nat) (ks : List Int) (j : Nat) (h : j < ks.length) : spread c (ks.take (j + 1)) = spread c (ks.take j) ++ List.replicate (c ks[j]) ks[j] := by
  rw [List.take_succ_eq_append_getElem h, spread_append]; simp [spread]
theorem spread_le (c : Int → Nat) (ks : List Int) (j : Nat) : (spread c (ks.take j)).length ≤ (spread c ks).length := by
  have h := spread_append c (ks.take j) (ks.drop j)
  rw [List.take_append_drop] at h
  rw [h, List.length_append]; omega
theorem spread_mem {c : Int → Nat} {x : Int} : ∀ {ks : List Int}, x ∈ spread c ks → x ∈ ks
  | [], h => by simp [spread] at h
  | k :: ks, h => by
    simp only [spread, List.mem_append, List.mem_replicate] at h
    rcases h with ⟨_, rfl⟩ | h
    · simp
    · exact List.mem_cons_of_mem _ (spread_mem h)
theorem spread_rises {c : Int → Nat} : ∀ {ks : List Int}, Rises ks → Rises (spread c ks)
  | [], _ => List.Pairwise.nil
  | k :: ks, h => by
    obtain ⟨h1, h2⟩ := List.pairwise_cons.1 h
    refine List.pairwise_append.2 ⟨?_, spread_rises h2, fun x hx y hy => ?_⟩
    · exact List.pairwise_replicate.2 (.inr (Int.le_refl _))
    · rw [(List.mem_replicate.1 hx).2]
      exact h1 y (spread_mem hy)
theorem spread_count {c : Int → Nat} {o : Int} : ∀ {ks : List Int}, ks.Nodup → (spread c ks).count o = if o ∈ ks then c o else 0
  | [], _ => by simp [spread]
  | k :: ks, h => by
    obtain ⟨h1, h2⟩ := List.nodup_cons.1 h
    rw [spread, List.count_append, List.count_replicate, spread_count h2]
    by_cases e : k = o
    · subst e; simp [h1]
    · have e2 : (k == o) = false := by simp [e]
      have e3 : ¬ o = k := fun h => e h.symm
      simp [e2, e3]
theorem spread_norm {c : Int → Nat} {ks b : List Int} (hs : Rises ks) (hn : ks.Nodup) (hc : ∀ o, c o = b.count o) (hm : ∀ o, o ∈ b → o ∈ ks) : spread c ks = normB b := by
  refine rises_one (spread_rises hs) (norm_rises b) fun o => ?_
  rw [spread_count hn, norm_count]
  split
  · exact hc o
  · rename_i h
    symm
    exact List.count_eq_zero.2 fun h' => h (hm o h')
/-- what a sort of all keys makes -/
theorem sort_rises (ss : List Int) : Rises (ss.mergeSort fun x y => decide (x ≤ y)) := by
  have := List.pairwise_mergeSort (le := fun x y : Int => decide (x ≤ y)) (fun a b c h1 h2 => by simp only [decide_eq_true_eq] at *; omega) (fun a b => by simp only [Bool.or_eq_true, decide_eq_true_eq]; omega) ss
  exact this.imp fun h => by simpa using h
theorem sort_nodup {ss : List Int} (h : ss.Nodup) : (ss.mergeSort fun x y => decide (x ≤ y)).Nodup := (List.mergeSort_perm ss _).nodup_iff.2 h
theorem sort_mem {ss : List Int} {o : Int} : o ∈ (ss.mergeSort fun x y => decide (x ≤ y)) ↔ o ∈ ss := (List.mergeSort_perm ss _).mem_iff
theorem nodup_len_le : ∀ {ks b : List Int}, ks.Nodup → (∀ o ∈ ks, o ∈ b) → ks.length ≤ b.length
  | [], _, _, _ => by simp
  | k :: ks, b, hn, hm => by
    obtain ⟨h1, h2⟩ := List.nodup_cons.1 hn
    have hk := hm k (by simp)
    have h := nodup_len_le (ks := ks) (b := b.erase k) h2 fun o ho => (List.mem_erase_of_ne (show o ≠ k from fun e => h1 (by rw [← e]; exact ho))).2 (hm o (by simp [ho]))
    rw [List.length_erase_of_mem hk] at h
    have := List.length_pos_of_mem hk
    simp; omega
theorem len_le_count : ∀ {l a : List Int}, (∀ o, l.count o ≤ a.count o) → l.length ≤ a.length
  | [], _, _ => by simp
  | x :: l, a, h => by
    have hx : x ∈ a := List.count_pos_iff.1 (by have := h x; rw [List.count_cons_self] at this; omega)
    have h2 := len_le_count (l := l) (a := a.erase x) fun o => by
      have := h o
      rw [List.count_cons] at this
      rw [List.count_erase]
      by_cases e : x = o
      · subst e; simp at this ⊢; omega
      · have e1 : (x == o) = false := by simp [e]
        simp [e1] at this ⊢; exact this
    rw [List.length_erase_of_mem hx] at h2
    have := List.length_pos_of_mem hx
    simp; omega
end Go.Proofs.Ytpffknlbffnafaa
