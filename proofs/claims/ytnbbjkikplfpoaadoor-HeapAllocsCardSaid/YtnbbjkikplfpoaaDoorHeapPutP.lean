/- Layer heap: what a put does, on lists. -/
import Derived.Test.YtnbbjkikplfpoaaDoorHeapP
namespace Go.Proofs.YtnbbjkikplfpoaaDoor

theorem put_ok {ls : Rws} {o s v : Int} (h : putOk ls o s v = true) : hasS ls o s = true ∧ mayF ls v = true := by
  unfold putOk at h; rwa [Bool.and_eq_true] at h
theorem put_set {ls : Rws} {o s v : Int} (h : putOk ls o s v = true) : putF ls o s v = setF ls o s v := by unfold putF; rw [if_pos h]
theorem put_not {ls : Rws} {o s v : Int} (h : putOk ls o s v = false) : putF ls o s v = ls := by unfold putF; rw [h]; rfl
theorem row_at1 {ls : Rws} {o s v : Int} (h : hasS ls o s = true) : rowF (setF ls o s v) o = (rowF ls o).set s.toNat v := by rw [set_row h, if_pos (.inl rfl)]
theorem row_other {ls : Rws} {o s v p : Int} (h : hasS ls o s = true) (hp : 1 ≤ p) (hne : p ≠ o) : rowF (setF ls o s v) p = rowF ls p := by
  have h1 := hasS_iff.1 h
  rw [set_row h, if_neg]
  rintro (e | e)
  · exact hne e
  · omega
theorem row_len {ls : Rws} {o s v : Int} (h : hasS ls o s = true) {p : Int} (hp : 1 ≤ p) : (rowF (setF ls o s v) p).length = (rowF ls p).length := by
  by_cases e : p = o
  · subst e; rw [row_at1 h, List.length_set]
  · rw [row_other h hp e]
theorem has_put (ls : Rws) (o s v p q : Int) : hasS (putF ls o s v) p q = hasS ls p q := by
  by_cases h : putOk ls o s v = true
  · rw [put_set h]
    have h1 := (put_ok h).1
    unfold hasS
    rw [setF_len]
    congr 1
    apply propext
    constructor
    · rintro ⟨a, b, c, d⟩; rw [row_len h1 a] at d; exact ⟨a, b, c, d⟩
    · rintro ⟨a, b, c, d⟩; refine ⟨a, b, c, ?_⟩; rw [row_len h1 a]; exact d
  · rw [put_not (by simpa using h)]
theorem get_put {ls : Rws} {o s v : Int} (h : putOk ls o s v = true) : getF (putF ls o s v) o s = v := by
  have h1 := (put_ok h).1
  have h2 := hasS_iff.1 h1
  unfold getF
  rw [has_put, if_pos h1, put_set h, row_at1 h1, List.getD_eq_getElem?_getD, List.getElem?_set_self (by omega)]
  rfl
theorem get_other {ls : Rws} {o s v p q : Int} (h : ¬ (o = p ∧ s = q)) : getF (putF ls o s v) p q = getF ls p q := by
  unfold getF
  rw [has_put]
  by_cases hh : hasS ls p q = true
  · rw [if_pos hh, if_pos hh]
    by_cases hk : putOk ls o s v = true
    · have h1 := (put_ok hk).1
      have h2 := hasS_iff.1 h1
      have h3 := hasS_iff.1 hh
      rw [put_set hk]
      by_cases e : p = o
      · subst e
        rw [row_at1 h1, List.getD_eq_getElem?_getD, List.getD_eq_getElem?_getD, List.getElem?_set_ne (by intro e2; exact h ⟨rfl, by omega⟩)]
      · rw [row_other h1 h3.1 e]
    · rw [put_not (by simpa using hk)]
  · rw [if_neg hh, if_neg hh]
theorem right_put {n : Int} {ls : Rws} {o s v : Int} (hr : rightF n ls = true) : rightF n (putF ls o s v) = true := by
  by_cases hk : putOk ls o s v = true
  · rw [put_set hk]
    obtain ⟨h1, h2⟩ := put_ok hk
    have hv : 0 ≤ v ∧ v ≤ ls.length := by unfold mayF at h2; simpa using h2
    have hh := hasS_iff.1 h1
    have hl := right_len hr
    have hrr := right_rows hr
    refine right_of (by rw [setF_len]; exact hl) fun l hl' => ?_
    rw [setF_len]
    rcases List.mem_or_eq_of_mem_set hl' with h3 | rfl
    · exact hrr l h3
    · have hm : rowF ls o ∈ ls := by rw [rowF_mem ⟨hh.1, hh.2.1⟩]; exact List.getElem_mem _
      refine ⟨by rw [List.length_set]; exact (hrr _ hm).1, fun x hx => ?_⟩
      rcases List.mem_or_eq_of_mem_set hx with h4 | rfl
      · exact (hrr _ hm).2 x h4
      · exact hv
  · rw [put_not (by simpa using hk)]; exact hr
theorem same_put {n : Int} {ls : Rws} {o s v : Int} (h : putOk ls o s v = true) : (getF ls o s == v) = sameF n ls n (putF ls o s v) := by
  have h1 := (put_ok h).1
  have h2 := hasS_iff.1 h1
  have hg : getF ls o s = (rowF ls o)[s.toNat]'(by omega) := by
    unfold getF; rw [if_pos h1, List.getD_eq_getElem?_getD, List.getElem?_eq_getElem (by omega)]; rfl
  unfold sameF
  by_cases e : getF ls o s = v
  · rw [e, beq_self_eq_true]
    symm
    rw [decide_eq_true_iff]
    refine ⟨rfl, ?_⟩
    rw [put_set h]
    unfold setF
    have h3 : (rowF ls o).set s.toNat v = rowF ls o := by rw [← e, hg]; exact List.set_getElem_self _
    rw [h3, rowF_mem ⟨h2.1, h2.2.1⟩]
    exact (List.set_getElem_self _).symm
  · rw [beq_eq_false_iff_ne.2 e]
    symm
    rw [decide_eq_false_iff_not]
    rintro ⟨_, he⟩
    apply e
    have := get_put h
    rw [← he] at this
    exact this
end Go.Proofs.YtnbbjkikplfpoaaDoor
