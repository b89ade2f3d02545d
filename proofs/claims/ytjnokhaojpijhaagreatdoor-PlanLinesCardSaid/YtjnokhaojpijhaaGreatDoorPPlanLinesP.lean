/- Layer plan: the law PlanLines: where a text's lines begin and end, as plain facts. -/
import Derived.Test.YtjnokhaojpijhaaGreatDoorPPlanL
import Derived.Test.YtjnokhaojpijhaaGreatDoorPbk
import Derived.Test.YtjnokhaojpijhaaGreatDoorPExtra4
import Derived.Test.YtjnokhaojpijhaaGreatDoorPExtra3
namespace Go.Proofs.YtjnokhaojpijhaaGreatDoor
open Go.RowKit
def flen (L : List B8) (m : Nat) : Nat := (fedT (L.take m)).length
theorem flen_zero (L : List B8) : flen L 0 = 0 := rfl
theorem flen_all (L : List B8) : flen L L.length = (fedT L).length := by unfold flen; rw [List.take_of_length_le (Nat.le_refl _)]
theorem fed_app (a b : List B8) : fedT (a ++ b) = fedT a ++ fedT b := by unfold fedT; rw [List.flatMap_append]
theorem fed_at {L : List B8} {m : Nat} (h : m < L.length) : fedT L = fedT (L.take m) ++ ((L[m] ++ [10]) ++ fedT (L.drop (m + 1))) := by
  have e : L = L.take m ++ L[m] :: L.drop (m + 1) := by rw [← List.drop_eq_getElem_cons h, List.take_append_drop]
  conv => lhs; rw [e]
  rw [fed_app]; rfl
theorem flen_succ {L : List B8} {m : Nat} (h : m < L.length) : flen L (m + 1) = flen L m + (L[m].length + 1) := by
  unfold flen; rw [List.take_succ_eq_append_getElem h, fed_snoc]; simp
theorem flen_le {L : List B8} {m : Nat} (h : m < L.length) : flen L m + (L[m].length + 1) ≤ (fedT L).length := by
  rw [fed_at h]; unfold flen; simp
/-- the byte at i, in line m -/
theorem fed_byte {L : List B8} {m i : Nat} (h : m < L.length) (hi : flen L m ≤ i) (hl : i ≤ flen L m + L[m].length) (hn : ∀ x ∈ L, (10 : UInt8) ∉ x) :
    ∃ b : UInt8, (fedT L)[i]? = some b ∧ (i = flen L m + L[m].length → b = 10) ∧ (i < flen L m + L[m].length → b ≠ 10) := by
  have e : (fedT L)[i]? = (L[m] ++ [10])[i - flen L m]? := by
    rw [fed_at h, List.getElem?_append_right (by exact hi)]
    show ((L[m] ++ [10]) ++ _)[i - flen L m]? = _
    rw [List.getElem?_append_left (by simp; omega)]
  rw [e]
  by_cases hc : i < flen L m + L[m].length
  · refine ⟨L[m][i - flen L m]'(by omega), ?_, fun h => by omega, fun _ hb => ?_⟩
    · rw [List.getElem?_append_left (by omega), List.getElem?_eq_getElem]
    · exact hn L[m] (List.getElem_mem h) (by rw [← hb]; exact List.getElem_mem _)
  · refine ⟨10, ?_, fun _ => rfl, fun h => absurd h hc⟩
    rw [List.getElem?_append_right (by omega), show i - flen L m - L[m].length = 0 by omega]; rfl
theorem fed_sub {L : List B8} {m : Nat} (h : m < L.length) : ((fedT L).drop (flen L m)).take (L[m].length + 1) = L[m] ++ [10] := by
  rw [fed_at h]
  unfold flen
  rw [List.drop_left' rfl, List.take_left' (by simp)]
theorem str_byte {S : ByteArray} {i : Nat} {b : UInt8} (h : S.data.toList[i]? = some b) : ∀ k : i < S.size, ((S[i]'k).toNat : Int) = (b.toNat : Int) := by
  intro k
  have h1 : S.data[i]? = some b := by simpa using h
  have h2 : S[i]'k = b := by
    have := Array.getElem?_eq_some_iff.1 h1
    exact this.2
  rw [h2]
theorem line_small {p : Pq} (h : PRt p) : ∀ x ∈ linesT p, x.length ≤ 500000 := by
  intro x hx
  unfold linesT at hx
  rcases List.mem_append.1 hx with hx | hx
  · exact head_small h x hx
  · rcases List.mem_append.1 hx with hx | hx
    · obtain ⟨y, hy, rfl⟩ := List.mem_map.1 hx
      exact mutT_small h hy
    · rw [List.mem_singleton] at hx
      subst hx
      have := printL_le p.pk
      have := h.len
      unfold lineT
      simp only [List.length_append, List.length_cons]
      have : pickW.length = 5 := rfl
      omega
theorem text_small {p : Pq} (h : PRt p) : (fedT (linesT p)).length ≤ 20000000 := by
  have h1 := fedT_len 500000 (linesT p) (line_small h)
  have h2 := lines_len h
  have h3 := h.rng
  unfold pRng at h3
  have : (linesT p).length ≤ 20 := by omega
  exact Nat.le_trans h1 (Nat.le_trans (Nat.mul_le_mul_right _ this) (by decide))
theorem text_is {p : Pq} (h : PRt p) : pText p = fedT (linesT p) := by unfold pText; rw [if_pos (pRight_iff.2 h)]
theorem dup_take {k i : Nat} {L : List B8} (h : i < L.length) : fedT (dupF k (L.take (i + 1))) = if i = k then (fedT (dupF k (L.take i)) ++ (L[i] ++ [10])) ++ (L[i] ++ [10]) else fedT (dupF k (L.take i)) ++ (L[i] ++ [10]) := by
  rw [List.take_succ_eq_append_getElem h, dup_snoc, List.length_take, Nat.min_eq_left (by omega)]
  split
  · rw [fed_app]; simp [fedT]
  · rw [fed_app]; simp [fedT]
theorem erase_take {k i : Nat} {L : List B8} (h : i < L.length) : fedT ((L.take (i + 1)).eraseIdx k) = if i = k then fedT ((L.take i).eraseIdx k) else fedT ((L.take i).eraseIdx k) ++ (L[i] ++ [10]) := by
  rw [List.take_succ_eq_append_getElem h, erase_snoc, List.length_take, Nat.min_eq_left (by omega)]
  split
  · simp
  · rw [fed_app]; simp [fedT]
theorem dup_le {k : Nat} : ∀ (L : List B8), (fedT (dupF k L)).length ≤ 2 * (fedT L).length := by
  intro L
  induction L generalizing k with
  | nil => cases k <;> simp [dupF, fedT]
  | cons x L ih =>
    cases k with
    | zero => simp only [dupF, fedT, List.flatMap_cons, List.length_append]; omega
    | succ k =>
      have := ih (k := k)
      simp only [dupF, fedT, List.flatMap_cons, List.length_append] at this ⊢
      omega
theorem erase_le {k : Nat} : ∀ (L : List B8), (fedT (L.eraseIdx k)).length ≤ (fedT L).length := by
  intro L
  induction L generalizing k with
  | nil => simp [fedT]
  | cons x L ih =>
    cases k with
    | zero => simp only [List.eraseIdx_zero, List.tail_cons, fedT, List.flatMap_cons, List.length_append]; omega
    | succ k =>
      have := ih (k := k)
      simp only [List.eraseIdx_cons_succ, fedT, List.flatMap_cons, List.length_append] at this ⊢
      omega
theorem flen_mono (L : List B8) (m : Nat) : flen L m ≤ (fedT L).length := by
  unfold flen
  conv => rhs; rw [← List.take_append_drop m L, fed_app, List.length_append]
  omega
end Go.Proofs.YtjnokhaojpijhaaGreatDoor
