/- Layer heap: what an allocation does, on lists. -/
import Derived.Test.YtnbbjkikplfpoaaDoorHeapPutP
namespace Go.Proofs.YtnbbjkikplfpoaaDoor

theorem alloc_wrong {n m : Int} {ls : Rws} (h : rightF n ls = false) : allocE n ls m = 1 ∧ allocF n ls m = ls ∧ allocN n ls m = 0 := by
  have e : allocE n ls m = 1 := by unfold allocE; rw [h]; rfl
  refine ⟨e, ?_, ?_⟩
  · unfold allocF; rw [e]; rfl
  · unfold allocN; rw [e]; rfl
theorem alloc_full {n m : Int} {ls : Rws} (h : rightF n ls = true) (hf : m ≤ ls.length ∨ 64 ≤ ls.length) : allocE n ls m = 4 ∧ allocF n ls m = ls ∧ allocN n ls m = 0 := by
  have e : allocE n ls m = 4 := by unfold allocE; rw [h, if_pos rfl, if_pos hf]
  refine ⟨e, ?_, ?_⟩
  · unfold allocF; rw [e]; rfl
  · unfold allocN; rw [e]; rfl
theorem alloc_room {n m : Int} {ls : Rws} (h : rightF n ls = true) (hf : ¬ (m ≤ ls.length ∨ 64 ≤ ls.length)) : allocE n ls m = 0 ∧ allocF n ls m = ls ++ [List.replicate n.toNat 0] ∧ allocN n ls m = ls.length + 1 := by
  have e : allocE n ls m = 0 := by unfold allocE; rw [h, if_pos rfl, if_neg hf]
  refine ⟨e, ?_, ?_⟩
  · unfold allocF; rw [e]; rfl
  · unfold allocN; rw [e]; rfl
theorem row_snoc (ls : Rws) (z : List Int) (k : Nat) (hk : k ≤ ls.length) : rowF (ls ++ [z]) ((k : Int) + 1) = if k < ls.length then rowF ls ((k : Int) + 1) else z := by
  have e : ((k : Int) + 1 - 1).toNat = k := by omega
  unfold rowF
  rw [e, List.getD_eq_getElem?_getD]
  split
  · rename_i h
    rw [List.getElem?_append_left h, List.getD_eq_getElem?_getD]
  · rename_i h
    have h2 : k = ls.length := by omega
    rw [h2]; simp
theorem row_right {n : Int} {ls : Rws} (h : rightF n ls = true) (k : Nat) (hk : k < ls.length) : ((rowF ls ((k : Int) + 1)).length : Int) = n := by
  have e : ((k : Int) + 1 - 1).toNat = k := by omega
  unfold rowF
  rw [e, List.getD_eq_getElem?_getD, List.getElem?_eq_getElem hk]
  exact (right_rows h _ (List.getElem_mem hk)).1
theorem alloc_has {N : Nat} {ls : Rws} (h : rightF N ls = true) {k j : Nat} (hk : k ≤ ls.length) (hj : j < N) : hasS (ls ++ [List.replicate N 0]) ((k : Int) + 1) j = true := by
  rw [hasS_iff, row_snoc ls _ k hk, List.length_append]
  refine ⟨by omega, by simp; omega, by omega, ?_⟩
  split
  · rename_i h2
    have := row_right h k h2
    omega
  · rw [List.length_replicate]; omega
theorem alloc_get {N : Nat} {ls : Rws} (h : rightF N ls = true) {k j : Nat} (hk : k ≤ ls.length) (hj : j < N) : getF (ls ++ [List.replicate N 0]) ((k : Int) + 1) j = getF ls ((k : Int) + 1) j := by
  unfold getF
  rw [if_pos (alloc_has h hk hj), row_snoc ls _ k hk]
  by_cases hlt : k < ls.length
  · rw [if_pos hlt, if_pos]
    rw [hasS_iff]
    have := row_right h k hlt
    exact ⟨by omega, by omega, by omega, by omega⟩
  · rw [if_neg hlt, if_neg]
    · rw [List.getD_eq_getElem?_getD, List.getElem?_replicate]
      split <;> rfl
    · rw [hasS_iff]; intro h2; omega
theorem alloc_stays {N : Nat} {ls : Rws} (h : rightF N ls = true) (hl : ls.length < 64) : rightF N (ls ++ [List.replicate N 0]) = true := by
  have h1 := right_len h
  have h2 := right_rows h
  refine right_of ⟨h1.1, h1.2.1, by rw [List.length_append]; simp; omega⟩ fun l hl' => ?_
  rw [List.mem_append] at hl'
  have e : (ls ++ [List.replicate N (0 : Int)]).length = ls.length + 1 := by simp
  rw [e]
  rcases hl' with h3 | h3
  · exact ⟨(h2 l h3).1, fun v hv => by have := (h2 l h3).2 v hv; omega⟩
  · have h4 : l = List.replicate N 0 := by simpa using h3
    subst h4
    refine ⟨by rw [List.length_replicate], fun v hv => ?_⟩
    have h5 : v = 0 := (List.mem_replicate.1 hv).2
    omega
end Go.Proofs.YtnbbjkikplfpoaaDoor
