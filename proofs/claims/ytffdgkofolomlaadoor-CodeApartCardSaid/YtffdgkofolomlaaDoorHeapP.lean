/- Layer heap: what the chapter asks, as plain functions on lists. -/
import Derived.Lib.ItoaNum
import Derived.Lib.AtoiAll
namespace Go.Proofs.YtffdgkofolomlaaDoor

abbrev Rws := List (List Int)
def hasO (ls : Rws) (o : Int) : Bool := decide (1 ≤ o ∧ o ≤ ls.length)
def rowF (ls : Rws) (o : Int) : List Int := ls.getD (o - 1).toNat []
def hasS (ls : Rws) (o s : Int) : Bool := decide (1 ≤ o ∧ o ≤ ls.length ∧ 0 ≤ s ∧ s < (rowF ls o).length)
def mayF (ls : Rws) (v : Int) : Bool := decide (0 ≤ v ∧ v ≤ ls.length)
def rowOk (n : Int) (k : Nat) (l : List Int) : Bool := decide ((l.length : Int) = n) && l.all fun v => decide (0 ≤ v ∧ v ≤ k)
def rightF (n : Int) (ls : Rws) : Bool := decide (1 ≤ n ∧ n ≤ 4 ∧ ls.length ≤ 64) && ls.all (rowOk n ls.length)
def getF (ls : Rws) (o s : Int) : Int := if hasS ls o s then (rowF ls o).getD s.toNat 0 else 0
def putOk (ls : Rws) (o s v : Int) : Bool := hasS ls o s && mayF ls v
def setF (ls : Rws) (o s v : Int) : Rws := ls.set (o - 1).toNat ((rowF ls o).set s.toNat v)
def putF (ls : Rws) (o s v : Int) : Rws := if putOk ls o s v then setF ls o s v else ls
def allocE (n : Int) (ls : Rws) (most : Int) : Int := if rightF n ls then (if most ≤ ls.length ∨ 64 ≤ ls.length then 4 else 0) else 1
def allocF (n : Int) (ls : Rws) (most : Int) : Rws := if allocE n ls most = 0 then ls ++ [List.replicate n.toNat 0] else ls
def allocN (n : Int) (ls : Rws) (most : Int) : Int := if allocE n ls most = 0 then ls.length + 1 else 0
def sameF (n : Int) (ls : Rws) (m : Int) (ms : Rws) : Bool := decide (n = m ∧ ls = ms)
/-- what memory bears -/
def Fit (ls : Rws) : Prop := ls.length * 24 ≤ 140737488351232 ∧ ∀ l ∈ ls, l.length * 8 ≤ 140737488351232
/-- each number is an int -/
def Rng (ls : Rws) : Prop := ∀ l ∈ ls, ∀ o ∈ l, -9223372036854775808 ≤ o ∧ o ≤ 9223372036854775807

theorem rowF_mem {ls : Rws} {o : Int} (h : 1 ≤ o ∧ o ≤ ls.length) : rowF ls o = ls[(o - 1).toNat]'(by omega) := by
  unfold rowF; rw [List.getD_eq_getElem?_getD, List.getElem?_eq_getElem (by omega)]; rfl
theorem hasS_iff {ls : Rws} {o s : Int} : hasS ls o s = true ↔ 1 ≤ o ∧ o ≤ ls.length ∧ 0 ≤ s ∧ s < (rowF ls o).length := by unfold hasS; rw [decide_eq_true_iff]
theorem setF_len (ls : Rws) (o s v : Int) : (setF ls o s v).length = ls.length := by simp [setF]
theorem putF_len (ls : Rws) (o s v : Int) : (putF ls o s v).length = ls.length := by unfold putF; split <;> simp [setF]
theorem set_row {ls : Rws} {o s v : Int} (h : hasS ls o s = true) (p : Int) : rowF (setF ls o s v) p = if p = o ∨ (p - 1).toNat = (o - 1).toNat then (rowF ls o).set s.toNat v else rowF ls p := by
  rw [hasS_iff] at h
  unfold setF
  by_cases e : (p - 1).toNat = (o - 1).toNat
  · rw [if_pos (.inr e)]
    show (ls.set _ _).getD _ _ = _
    rw [e, List.getD_eq_getElem?_getD, List.getElem?_set_self (by omega)]; rfl
  · rw [if_neg (by rintro (rfl | h) <;> contradiction)]
    unfold rowF
    rw [List.getD_eq_getElem?_getD, List.getD_eq_getElem?_getD, List.getElem?_set_ne (fun h => e h.symm), List.getD_eq_getElem?_getD]
theorem fit_set {ls : Rws} (h : Fit ls) (o s v : Int) : Fit (putF ls o s v) := by
  unfold putF
  split
  · refine ⟨by rw [setF_len]; exact h.1, fun l hl => ?_⟩
    rcases List.mem_or_eq_of_mem_set hl with h1 | rfl
    · exact h.2 l h1
    · rw [List.length_set]
      unfold rowF
      rw [List.getD_eq_getElem?_getD]
      rcases e : ls[(o - 1).toNat]? with _ | l
      · simp
      · exact h.2 l (List.mem_of_getElem? e)
  · exact h
theorem rng_set {ls : Rws} (h : Rng ls) {o s v : Int} (hv : -9223372036854775808 ≤ v ∧ v ≤ 9223372036854775807) : Rng (putF ls o s v) := by
  unfold putF
  split
  · intro l hl x hx
    rcases List.mem_or_eq_of_mem_set hl with h1 | rfl
    · exact h l h1 x hx
    · rcases List.mem_or_eq_of_mem_set hx with h1 | rfl
      · unfold rowF at h1
        rw [List.getD_eq_getElem?_getD] at h1
        rcases e : ls[(o - 1).toNat]? with _ | l
        · rw [e] at h1; simp at h1
        · rw [e] at h1; exact h l (List.mem_of_getElem? e) x h1
      · exact hv
  · exact h
theorem right_len {n : Int} {ls : Rws} (h : rightF n ls = true) : 1 ≤ n ∧ n ≤ 4 ∧ ls.length ≤ 64 := by
  unfold rightF at h; rw [Bool.and_eq_true, decide_eq_true_iff] at h; exact h.1
theorem right_rows {n : Int} {ls : Rws} (h : rightF n ls = true) : ∀ l ∈ ls, (l.length : Int) = n ∧ ∀ v ∈ l, 0 ≤ v ∧ v ≤ ls.length := by
  unfold rightF at h; rw [Bool.and_eq_true, List.all_eq_true] at h
  intro l hl
  have := h.2 l hl
  unfold rowOk at this
  rw [Bool.and_eq_true, decide_eq_true_iff, List.all_eq_true] at this
  exact ⟨this.1, fun v hv => by simpa using this.2 v hv⟩
theorem right_of {n : Int} {ls : Rws} (h : 1 ≤ n ∧ n ≤ 4 ∧ ls.length ≤ 64) (h2 : ∀ l ∈ ls, (l.length : Int) = n ∧ ∀ v ∈ l, 0 ≤ v ∧ v ≤ ls.length) : rightF n ls = true := by
  unfold rightF
  rw [Bool.and_eq_true, decide_eq_true_iff, List.all_eq_true]
  refine ⟨h, fun l hl => ?_⟩
  unfold rowOk
  rw [Bool.and_eq_true, decide_eq_true_iff, List.all_eq_true]
  exact ⟨(h2 l hl).1, fun v hv => by simpa using (h2 l hl).2 v hv⟩
theorem fit_right {n : Int} {ls : Rws} (h : rightF n ls = true) : Fit ls := by
  have h1 := right_len h
  exact ⟨by omega, fun l hl => by have := (right_rows h l hl).1; omega⟩
theorem alloc_right {n : Int} {ls : Rws} {most : Int} (h : allocE n ls most = 0) : rightF n ls = true ∧ ¬ most ≤ ls.length ∧ ¬ 64 ≤ ls.length := by
  unfold allocE at h
  split at h
  · split at h
    · omega
    · rename_i h1 h2; exact ⟨h1, by omega, by omega⟩
  · omega
theorem fit_alloc {n : Int} {ls : Rws} (hf : Fit ls) (most : Int) : Fit (allocF n ls most) := by
  unfold allocF
  split
  · rename_i h
    obtain ⟨h1, h2, h3⟩ := alloc_right h
    have hl := right_len h1
    refine ⟨by simp; omega, fun l hl => ?_⟩
    rcases List.mem_append.1 hl with h | h
    · exact hf.2 l h
    · obtain rfl := List.mem_singleton.1 h
      simp; omega
  · exact hf
end Go.Proofs.YtffdgkofolomlaaDoor
