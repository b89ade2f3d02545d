/- Layer bag: what the chapter asks, as plain functions on lists of numbers; a bag is known by how often it has each. -/
import Derived.Below
namespace Go.Proofs.Ytpffknlbffnafaa

/-- behind all that are no more -/
def insB (x : Int) : List Int → List Int
  | [] => [x]
  | y :: l => if y ≤ x then y :: insB x l else x :: y :: l
def normFrom : List Int → List Int → List Int
  | out, [] => out
  | out, x :: l => normFrom (insB x out) l
def normB (b : List Int) : List Int := normFrom [] b
def countB (b : List Int) (o : Int) : Nat := b.count o
/-- without the first k that are o -/
def delB (o : Int) : Nat → List Int → List Int
  | _, [] => []
  | k, x :: l => if x = o ∧ 0 < k then delB o (k - 1) l else x :: delB o k l
def addB (b : List Int) (o n : Int) : List Int := normB (delB o (-n).toNat b ++ List.replicate (min n.toNat 1000) o)
def sumB (a b : List Int) : List Int := normB (a ++ b)
def lessFrom : List Int → List Int → Option (List Int)
  | out, [] => some out
  | out, x :: l => if countB out x = 0 then none else lessFrom (addB out x (-1)) l
def lessB (a b : List Int) : Option (List Int) := lessFrom (normB a) b
def sameB (a b : List Int) : Bool := decide (normB a = normB b)

def Rises (l : List Int) : Prop := l.Pairwise (· ≤ ·)

/-! ### insertion -/
theorem ins_count (x o : Int) : ∀ l : List Int, (insB x l).count o = l.count o + (if x = o then 1 else 0)
  | [] => by simp [insB, List.count_cons]
  | y :: l => by
    unfold insB
    split
    · rw [List.count_cons, List.count_cons, ins_count x o l]; omega
    · rw [List.count_cons]; simp
theorem ins_len (x : Int) : ∀ l : List Int, (insB x l).length = l.length + 1
  | [] => rfl
  | y :: l => by
    unfold insB
    split
    · simp [ins_len x l]
    · simp
theorem ins_mem {x z : Int} : ∀ {l : List Int}, z ∈ insB x l → z = x ∨ z ∈ l
  | [], h => by simp [insB] at h; exact .inl h
  | y :: l, h => by
    unfold insB at h
    split at h
    · rcases List.mem_cons.1 h with rfl | h
      · exact .inr (by simp)
      · rcases ins_mem h with h | h
        · exact .inl h
        · exact .inr (by simp [h])
    · rcases List.mem_cons.1 h with h | h
      · exact .inl h
      · exact .inr h
theorem ins_rises {x : Int} : ∀ {l : List Int}, Rises l → Rises (insB x l)
  | [], _ => by simp [insB, Rises]
  | y :: l, h => by
    obtain ⟨h1, h2⟩ := List.pairwise_cons.1 h
    unfold insB
    split
    · rename_i hy
      refine List.pairwise_cons.2 ⟨fun z hz => ?_, ins_rises h2⟩
      rcases ins_mem hz with rfl | hz
      · exact hy
      · exact h1 z hz
    · rename_i hy
      refine List.pairwise_cons.2 ⟨fun z hz => ?_, h⟩
      rcases List.mem_cons.1 hz with rfl | hz
      · omega
      · have := h1 z hz; omega
/-- where it stands: behind the first k, all of which are no more, ahead of one that is more -/
theorem ins_at {x : Int} : ∀ (l : List Int) (k : Nat), k ≤ l.length → (∀ y ∈ l.take k, y ≤ x) → (∀ y, l[k]? = some y → x < y) → insB x l = l.take k ++ x :: l.drop k
  | [], k, hk, _, _ => by
    have : k = 0 := by simpa using hk
    subst this; rfl
  | y :: l, 0, _, _, h => by
    have := h y rfl
    unfold insB
    rw [if_neg (by omega)]; rfl
  | y :: l, k + 1, hk, h1, h2 => by
    unfold insB
    rw [if_pos (h1 y (by simp)), ins_at l k (by simpa using hk) (fun z hz => h1 z (by simp [hz])) (fun z hz => h2 z (by simpa using hz))]
    rfl

/-! ### norm -/
theorem from_count (o : Int) : ∀ (l out : List Int), (normFrom out l).count o = out.count o + l.count o
  | [], out => by simp [normFrom]
  | x :: l, out => by
    rw [normFrom, from_count o l, ins_count, List.count_cons]
    have : (x == o) = decide (x = o) := rfl
    by_cases h : x = o <;> simp [h] <;> omega
theorem from_len : ∀ (l out : List Int), (normFrom out l).length = out.length + l.length
  | [], out => by simp [normFrom]
  | x :: l, out => by rw [normFrom, from_len l, ins_len]; simp; omega
theorem from_rises : ∀ (l out : List Int), Rises out → Rises (normFrom out l)
  | [], _, h => h
  | x :: l, out, h => by rw [normFrom]; exact from_rises l _ (ins_rises h)
theorem from_snoc : ∀ (l out : List Int) (x : Int), normFrom out (l ++ [x]) = insB x (normFrom out l)
  | [], _, _ => rfl
  | y :: l, out, x => by rw [List.cons_append, normFrom, normFrom, from_snoc l]
theorem norm_count (b : List Int) (o : Int) : (normB b).count o = b.count o := by unfold normB; rw [from_count]; simp
theorem norm_len (b : List Int) : (normB b).length = b.length := by unfold normB; rw [from_len]; simp
theorem norm_rises (b : List Int) : Rises (normB b) := from_rises b [] List.Pairwise.nil
theorem norm_take (b : List Int) (k : Nat) (h : k < b.length) : normB (b.take (k + 1)) = insB b[k] (normB (b.take k)) := by
  unfold normB; rw [List.take_succ_eq_append_getElem h, from_snoc]

/-- two that rise are one, if they have each as often -/
theorem rises_one : ∀ {a b : List Int}, Rises a → Rises b → (∀ o, a.count o = b.count o) → a = b
  | [], [], _, _, _ => rfl
  | [], y :: b, _, _, h => by have := h y; simp at this
  | x :: a, [], _, _, h => by have := h x; simp at this
  | x :: a, y :: b, ha, hb, h => by
    obtain ⟨a1, a2⟩ := List.pairwise_cons.1 ha
    obtain ⟨b1, b2⟩ := List.pairwise_cons.1 hb
    have hxy : x = y := by
      have hx : x ∈ y :: b := by rw [← List.count_pos_iff, ← h x]; simp
      have hy : y ∈ x :: a := by rw [← List.count_pos_iff, h y]; simp
      have h1 : y ≤ x := by
        rcases List.mem_cons.1 hx with e | e
        · omega
        · exact b1 x e
      have h2 : x ≤ y := by
        rcases List.mem_cons.1 hy with e | e
        · omega
        · exact a1 y e
      omega
    subst hxy
    rw [rises_one a2 b2 fun o => by have := h o; rw [List.count_cons, List.count_cons] at this; omega]
theorem norm_iff {a b : List Int} : normB a = normB b ↔ ∀ o, a.count o = b.count o := by
  constructor
  · intro h o
    rw [← norm_count a, ← norm_count b, h]
  · intro h
    exact rises_one (norm_rises a) (norm_rises b) fun o => by rw [norm_count, norm_count, h]
theorem norm_norm (b : List Int) : normB (normB b) = normB b := norm_iff.2 fun o => norm_count b o
theorem norm_of_rises {a : List Int} (h : Rises a) : normB a = a := rises_one (norm_rises a) h fun o => norm_count a o
theorem len_of_count : ∀ {a b : List Int}, (∀ o, a.count o = b.count o) → a.length = b.length := fun {a b} h => by
  rw [← norm_len a, ← norm_len b, norm_iff.2 h]

/-! ### add -/
theorem del_count (o p : Int) : ∀ (k : Nat) (l : List Int), (delB o k l).count p = if p = o then l.count o - k else l.count p
  | _, [] => by simp [delB]
  | k, x :: l => by
    unfold delB
    split
    · rename_i h
      obtain ⟨rfl, hk⟩ := h
      rw [del_count x p (k - 1) l]
      by_cases e : p = x
      · subst e; rw [if_pos rfl, if_pos rfl]; simp; omega
      · rw [if_neg e, if_neg e, List.count_cons]
        have : (x == p) = false := by simp; omega
        simp [this]
    · rename_i h
      rw [List.count_cons, del_count o p k l]
      by_cases e : p = o
      · subst e
        rw [if_pos rfl, if_pos rfl, List.count_cons]
        by_cases e2 : x = p
        · have hk : k = 0 := by
            rcases Nat.eq_zero_or_pos k with h0 | h0
            · exact h0
            · exact absurd ⟨e2, h0⟩ h
          subst hk; simp
        · have : (x == p) = false := by simp [e2]
          simp [this]
      · rw [if_neg e, if_neg e, List.count_cons]
theorem del_le (o : Int) : ∀ (k : Nat) (l : List Int), (delB o k l).length ≤ l.length
  | _, [] => by simp [delB]
  | k, x :: l => by
    unfold delB
    split
    · have := del_le o (k - 1) l; simp; omega
    · have := del_le o k l; simp; omega
/-- more than there are is as many as there are -/
theorem del_more (o : Int) : ∀ (k : Nat) (l : List Int), l.length ≤ k → delB o k l = delB o l.length l
  | _, [], _ => by simp [delB]
  | k, x :: l, h => by
    have hk : l.length + 1 ≤ k := by simpa using h
    have hkey : ∀ (m n : Nat) (l : List Int), l.length ≤ m → l.length ≤ n → delB o m l = delB o n l := by
      intro m n l
      induction l generalizing m n with
      | nil => intro _ _; simp [delB]
      | cons y l ih =>
        intro hm hn
        simp at hm hn
        by_cases e : y = o
        · simp only [delB, e, true_and]
          rw [if_pos (by omega), if_pos (by omega)]
          exact ih _ _ (by omega) (by omega)
        · simp only [delB, e, false_and, if_false]
          rw [ih m n (by omega) (by omega)]
    exact hkey _ _ _ h (Nat.le_refl _)
theorem add_count (b : List Int) (o n p : Int) : (addB b o n).count p = if p = o then b.count o - (-n).toNat + min n.toNat 1000 else b.count p := by
  unfold addB
  rw [norm_count, List.count_append, del_count, List.count_replicate]
  by_cases e : p = o
  · subst e; simp
  · rw [if_neg e, if_neg e]
    have : (o == p) = false := by simp; omega
    simp [this]
theorem add_rises (b : List Int) (o n : Int) : Rises (addB b o n) := norm_rises _
theorem sum_count (a b : List Int) (o : Int) : (sumB a b).count o = a.count o + b.count o := by unfold sumB; rw [norm_count, List.count_append]

/-! ### less -/
theorem lessFrom_some : ∀ (b out : List Int), Rises out → (∀ o, b.count o ≤ out.count o) → ∃ l, lessFrom out b = some l ∧ Rises l ∧ ∀ o, l.count o = out.count o - b.count o
  | [], out, hr, _ => ⟨out, rfl, hr, by simp⟩
  | x :: b, out, hr, h => by
    have hx : countB out x ≠ 0 := by
      have := h x
      unfold countB
      simp at this; omega
    unfold lessFrom
    rw [if_neg hx]
    have hc : ∀ o, (addB out x (-1)).count o = out.count o - (if x = o then 1 else 0) := fun o => by
      rw [add_count]
      by_cases e : o = x
      · subst e; simp
      · rw [if_neg e, if_neg (fun e' => e e'.symm)]; simp
    obtain ⟨l, h1, h2, h3⟩ := lessFrom_some b (addB out x (-1)) (add_rises _ _ _) fun o => by
      have := h o
      rw [hc, List.count_cons] at *
      by_cases e : x = o
      · subst e; simp at this ⊢; omega
      · have e2 : (x == o) = false := by simp [e]
        simp [e, e2] at this ⊢; exact this
    refine ⟨l, h1, h2, fun o => ?_⟩
    rw [h3, hc, List.count_cons]
    by_cases e : x = o
    · subst e; simp; omega
    · have e2 : (x == o) = false := by simp [e]
      simp [e, e2]
theorem lessFrom_none : ∀ (b out : List Int), (∃ o, out.count o < b.count o) → lessFrom out b = none
  | [], out, h => by obtain ⟨o, h⟩ := h; simp at h
  | x :: b, out, h => by
    unfold lessFrom
    split
    · rfl
    · rename_i hx
      unfold countB at hx
      obtain ⟨o, ho⟩ := h
      refine lessFrom_none b _ ⟨o, ?_⟩
      rw [add_count]
      rw [List.count_cons] at ho
      by_cases e : o = x
      · subst e; simp at ho ⊢; omega
      · have e2 : (x == o) = false := by simp; omega
        rw [if_neg e]; simp [e2] at ho; exact ho
theorem less_some {a b : List Int} (h : ∀ o, b.count o ≤ a.count o) : ∃ l, lessB a b = some l ∧ Rises l ∧ ∀ o, l.count o = a.count o - b.count o := by
  obtain ⟨l, h1, h2, h3⟩ := lessFrom_some b (normB a) (norm_rises a) fun o => by rw [norm_count]; exact h o
  exact ⟨l, h1, h2, fun o => by rw [h3, norm_count]⟩
theorem less_none {a b : List Int} (h : ∃ o, a.count o < b.count o) : lessB a b = none := by
  obtain ⟨o, h⟩ := h
  exact lessFrom_none b _ ⟨o, by rw [norm_count]; exact h⟩
theorem same_iff {a b : List Int} : sameB a b = true ↔ ∀ o, a.count o = b.count o := by unfold sameB; rw [decide_eq_true_eq]; exact norm_iff
end Go.Proofs.Ytpffknlbffnafaa
