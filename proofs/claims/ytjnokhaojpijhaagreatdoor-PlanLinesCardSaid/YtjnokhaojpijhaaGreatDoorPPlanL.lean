/- Layer plan: a text with a line too many, or too few, or turned. -/
import Derived.Test.YtjnokhaojpijhaaGreatDoorPao
namespace Go.Proofs.YtjnokhaojpijhaaGreatDoor
/-- line k twice -/
def dupF {α : Type} : Nat → List α → List α
  | _, [] => []
  | 0, x :: l => x :: x :: l
  | k + 1, x :: l => x :: dupF k l
theorem dup_len {α : Type} : ∀ (k : Nat) (l : List α), k < l.length → (dupF k l).length = l.length + 1
  | _, [], h => by simp at h
  | 0, x :: l, _ => rfl
  | k + 1, x :: l, h => by rw [dupF, List.length_cons, dup_len k l (by simpa using h)]; rfl
theorem dup_mem {α : Type} : ∀ (k : Nat) (l : List α), ∀ x ∈ dupF k l, x ∈ l
  | _, [], x, h => by simp [dupF] at h
  | 0, y :: l, x, h => by
    rcases List.mem_cons.1 h with rfl | h
    · simp
    · exact h
  | k + 1, y :: l, x, h => by
    rcases List.mem_cons.1 h with rfl | h
    · simp
    · exact List.mem_cons_of_mem _ (dup_mem k l x h)
theorem dup_head {α : Type} (k : Nat) (x : α) (l : List α) : (dupF k (x :: l)).head? = some x := by cases k <;> rfl
theorem dup_snoc {α : Type} : ∀ (k : Nat) (l : List α) (x : α), dupF k (l ++ [x]) = dupF k l ++ (if l.length = k then [x, x] else [x])
  | 0, [], x => rfl
  | k + 1, [], x => by rw [if_neg (by simp)]; cases k <;> rfl
  | 0, y :: l, x => by rw [if_neg (by simp)]; rfl
  | k + 1, y :: l, x => by
    rw [List.cons_append, dupF, dupF, dup_snoc k l x, List.cons_append, List.length_cons]
    by_cases h : l.length = k
    · rw [if_pos h, if_pos (by omega)]
    · rw [if_neg h, if_neg (by omega)]
theorem erase_snoc {α : Type} : ∀ (k : Nat) (l : List α) (x : α), (l ++ [x]).eraseIdx k = l.eraseIdx k ++ (if l.length = k then [] else [x])
  | 0, [], x => rfl
  | k + 1, [], x => by rw [if_neg (by simp)]; rfl
  | 0, y :: l, x => by rw [if_neg (by simp)]; rfl
  | k + 1, y :: l, x => by
    rw [List.cons_append, List.eraseIdx_cons_succ, List.eraseIdx_cons_succ, erase_snoc k l x, List.cons_append, List.length_cons]
    by_cases h : l.length = k
    · rw [if_pos h, if_pos (by omega)]
    · rw [if_neg h, if_neg (by omega)]
theorem fed_snoc (l : List B8) (x : B8) : fedT (l ++ [x]) = fedT l ++ (x ++ [10]) := by unfold fedT; rw [List.flatMap_append]; simp
theorem head_D {α : Type} (l : List α) (d : α) : l.headD d = l.head?.getD d := by cases l <;> rfl
theorem lines_head (p : Pq) : ∃ r, linesT p = lineT engW (numsT 32 (pNums p)) :: lineT heapW (hTextF p.sl p.ob) :: r := ⟨_, rfl⟩
theorem fed_err {p : Pq} (h : PRt p) {L : List B8} (hm : ∀ x ∈ L, (10 : UInt8) ∉ x) (h1 : L.head? = (linesT p).head?) (h2 : L.length ≠ (linesT p).length) : pParse (fedT L) = (zeroQ, 2) := by
  have hl := lines_len h
  refine pParse_2 ?_
  rw [cut_fed L hm]
  obtain ⟨r, hr⟩ := lines_head p
  rw [hr] at h1
  refine linesP_len (a := p.wk) (b := p.mu) (c := p.cp) (d := p.bf) (e := p.bn) (f := p.mo) (g := p.pr) (k := p.li) ?_ ?_
  · rw [head_D, List.head?_append, h1]
    exact eng_text h
  · rintro ⟨h3, -⟩
    rw [List.length_append] at h3
    simp at h3
    omega
/-- a line less -/
theorem less_err {p : Pq} (h : PRt p) {k : Nat} (hk : k < (linesT p).length) : pParse (fedT ((linesT p).eraseIdx k)) = (zeroQ, 2) := by
  obtain ⟨r, hr⟩ := lines_head p
  have hm : ∀ x ∈ (linesT p).eraseIdx k, (10 : UInt8) ∉ x := fun x hx => lines_no h x (List.mem_of_mem_eraseIdx hx)
  rcases k with _ | k
  · refine pParse_2 ?_
    rw [cut_fed _ hm]
    refine linesP_first ?_
    rw [hr]
    exact eng_other (w := heapW) (by simp [engW, heapW, List.isPrefixOf])
  · refine fed_err h hm ?_ ?_
    · rw [hr]; rfl
    · rw [List.length_eraseIdx, if_pos hk]; omega
/-- a line more -/
theorem more_err {p : Pq} (h : PRt p) {k : Nat} (hk : k < (linesT p).length) : pParse (fedT (dupF k (linesT p))) = (zeroQ, 2) := by
  obtain ⟨r, hr⟩ := lines_head p
  refine fed_err h (fun x hx => lines_no h x (dup_mem k _ x hx)) ?_ ?_
  · rw [hr]; exact dup_head _ _ _
  · rw [dup_len k _ hk]; omega
theorem cut_fed_more : ∀ (l : List B8) (s : B8), (∀ p ∈ l, (10 : UInt8) ∉ p) → cut 10 (fedT l ++ s) = l ++ cut 10 s
  | [], s, _ => rfl
  | p :: l, s, h => by
    show cut 10 (p ++ [10] ++ fedT l ++ s) = _
    rw [List.append_assoc, List.append_assoc, List.singleton_append, cut_pre _ _ _ (h p (by simp)), cut_fed_more l s fun x hx => h x (by simp [hx])]; rfl
/-- something behind -/
theorem behind_err {p : Pq} (h : PRt p) : pParse (fedT (linesT p) ++ [32]) = (zeroQ, 2) := by
  refine pParse_2 ?_
  rw [cut_fed_more _ _ (lines_no h)]
  obtain ⟨r, hr⟩ := lines_head p
  refine linesP_len (a := p.wk) (b := p.mu) (c := p.cp) (d := p.bf) (e := p.bn) (f := p.mo) (g := p.pr) (k := p.li) ?_ ?_
  · rw [hr]; exact eng_text h
  · rintro ⟨-, h3⟩
    rw [show cut 10 ([32] : B8) = [[32]] from by decide, List.getLast?_append] at h3
    revert h3; simp
theorem fed_last (p : Pq) : ∃ l s, linesT p = l ++ [s] ∧ fedT (linesT p) = fedT l ++ s ++ [10] := by
  refine ⟨headT p ++ (p.rg.zip p.pg).map mutT, lineT pickW (printL p.pk), ?_, ?_⟩
  · simp [linesT]
  · rw [show linesT p = (headT p ++ (p.rg.zip p.pg).map mutT) ++ [lineT pickW (printL p.pk)] by simp [linesT], fed_snoc]; simp
/-- without the last line feed -/
theorem cutoff_err {p : Pq} (h : PRt p) : pParse ((fedT (linesT p)).take ((fedT (linesT p)).length - 1)) = (zeroQ, 2) := by
  obtain ⟨l, s, h1, h2⟩ := fed_last p
  have hl := lines_len h
  have hn := lines_no h
  obtain ⟨r, hr⟩ := lines_head p
  rw [h2, List.length_append, List.length_singleton, Nat.add_sub_cancel, List.take_left]
  refine pParse_2 ?_
  have hs : (10 : UInt8) ∉ s := hn s (by rw [h1]; simp)
  rw [cut_fed_more _ _ (fun x hx => hn x (by rw [h1]; simp [hx])), cut_all _ _ hs, ← h1]
  refine linesP_len (a := p.wk) (b := p.mu) (c := p.cp) (d := p.bf) (e := p.bn) (f := p.mo) (g := p.pr) (k := p.li) ?_ ?_
  · rw [hr]; exact eng_text h
  · rintro ⟨h3, -⟩; omega
end Go.Proofs.YtjnokhaojpijhaaGreatDoor
