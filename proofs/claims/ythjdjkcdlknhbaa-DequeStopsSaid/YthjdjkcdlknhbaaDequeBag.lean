import Derived.Below
import Derived.Shelf.Small.Bits
import Derived.Shelf.Strconv.Itoa0
import Derived.Shelf.Slices.SearchI
import Derived.Shelf.SortM.Plain
import Derived.Shelf.SortM.SortNone
import Derived.Shelf.SlIterI.Nil
import Derived.Shelf.SlIterI.Nil
import Derived.Shelf.SlGeneric
import Derived.Shelf.SortM.Plain
import Derived.Shelf.SortM.SortNone
import Derived.Test.YthjdjkcdlknhbaaProg
import Derived.Test.YthjdjkcdlknhbaaCore
import Derived.Maps.OwnSet
import Derived.Maps.OwnOps
import Derived.WideKeyEntry
import Derived.DeepKeys4
import Derived.Lib.SlKeysI
import Derived.Test.YthjdjkcdlknhbaaGrid
import Derived.Test.YthjdjkcdlknhbaaCore2
import Derived.Deep.QuietTactic
/- Layer bag: what the chapter asks, as plain functions on lists of numbers; a bag is known by how often it has each. -/
namespace Go.Proofs.Ythjdjkcdlknhbaa

/-- behind all that are no more -/
def insB (x : Int) : List Int → List Int
  | [] => [x]
  | y :: l => if y ≤ x then y :: insB x l else x :: y :: l
def normFrom : List Int → List Int → List Int
  | out, [] => out
  | out, x :: l => normFrom (insB x out) l
def normB (b : List Int) : List Int := normFrom [] b
def countB (b : List Int) (o : Int) : Nat := b.count o
/-- without the first k that are o -/
def delB (o : Int) : Nat → List Int → List Int
  | _, [] => []
  | k, x :: l => if x = o ∧ 0 < k then delB o (k - 1) l else x :: delB o k l
def addB (b : List Int) (o n : Int) : List Int := normB (delB o (-n).toNat b ++ List.replicate (min n.toNat 1000) o)
def sumB (a b : List Int) : List Int := normB (a ++ b)
def lessFrom : List Int → List Int → Option (List Int)
  | out, [] => some out
  | out, x :: l => if countB out x = 0 then none else lessFrom (addB out x (-1)) l
def lessB (a b : List Int) : Option (List Int) := lessFrom (normB a) b
def sameB (a b : List Int) : Bool := decide (normB a = normB b)

def Rises (l : List Int) : Prop := l.Pairwise (· ≤ ·)

/-! ### insertion -/
theorem ins_count (x o : Int) : ∀ l : List Int, (insB x l).count o = l.count o + (if x = o then 1 else 0)
  | [] => by simp [insB, List.count_cons]
  | y :: l => by
    unfold insB
    split
    · rw [List.count_cons, List.count_cons, ins_count x o l]; omega
    · rw [List.count_cons]; simp
theorem ins_len (x : Int) : ∀ l : List Int, (insB x l).length = l.length + 1
  | [] => rfl
  | y :: l => by
    unfold insB
    split
    · simp [ins_len x l]
    · simp
theorem ins_mem {x z : Int} : ∀ {l : List Int}, z ∈ insB x l → z = x ∨ z ∈ l
  | [], h => by simp [insB] at h; exact .inl h
  | y :: l, h => by
    unfold insB at h
    split at h
    · rcases List.mem_cons.1 h with rfl | h
      · exact .inr (by simp)
      · rcases ins_mem h with h | h
        · exact .inl h
        · exact .inr (by simp [h])
    · rcases List.mem_cons.1 h with h | h
      · exact .inl h
      · exact .inr h
theorem ins_rises {x : Int} : ∀ {l : List Int}, Rises l → Rises (insB x l)
  | [], _ => by simp [insB, Rises]
  | y :: l, h => by
    obtain ⟨h1, h2⟩ := List.pairwise_cons.1 h
    unfold insB
    split
    · rename_i hy
      refine List.pairwise_cons.2 ⟨fun z hz => ?_, ins_rises h2⟩
      rcases ins_mem hz with rfl | hz
      · exact hy
      · exact h1 z hz
    · rename_i hy
      refine List.pairwise_cons.2 ⟨fun z hz => ?_, h⟩
      rcases List.mem_cons.1 hz with rfl | hz
      · omega
      · have := h1 z hz; omega
/-- where it stands: behind the first k, all of which are no more, ahead of one that is more -/
theorem ins_at {x : Int} : ∀ (l : List Int) (k : Nat), k ≤ l.length → (∀ y ∈ l.take k, y ≤ x) → (∀ y, l[k]? = some y → x < y) → insB x l = l.take k ++ x :: l.drop k
  | [], k, hk, _, _ => by
    have : k = 0 := by simpa using hk
    subst this; rfl
  | y :: l, 0, _, _, h => by
    have := h y rfl
    unfold insB
    rw [if_neg (by omega)]; rfl
  | y :: l, k + 1, hk, h1, h2 => by
    unfold insB
    rw [if_pos (h1 y (by simp)), ins_at l k (by simpa using hk) (fun z hz => h1 z (by simp [hz])) (fun z hz => h2 z (by simpa using hz))]
    rfl

/-! ### norm -/
theorem from_count (o : Int) : ∀ (l out : List Int), (normFrom out l).count o = out.count o + l.count o
  | [], out => by simp [normFrom]
  | x :: l, out => by
    rw [normFrom, from_count o l, ins_count, List.count_cons]
    have : (x == o) = decide (x = o) := rfl
    by_cases h : x = o <;> simp [h] <;> omega
theorem from_len : ∀ (l out : List Int), (normFrom out l).length = out.length + l.length
  | [], out => by simp [normFrom]
  | x :: l, out => by rw [normFrom, from_len l, ins_len]; simp; omega
theorem from_rises : ∀ (l out : List Int), Rises out → Rises (normFrom out l)
  | [], _, h => h
  | x :: l, out, h => by rw [normFrom]; exact from_rises l _ (ins_rises h)
theorem from_snoc : ∀ (l out : List Int) (x : Int), normFrom out (l ++ [x]) = insB x (normFrom out l)
  | [], _, _ => rfl
  | y :: l, out, x => by rw [List.cons_append, normFrom, normFrom, from_snoc l]
theorem norm_count (b : List Int) (o : Int) : (normB b).count o = b.count o := by unfold normB; rw [from_count]; simp
theorem norm_len (b : List Int) : (normB b).length = b.length := by unfold normB; rw [from_len]; simp
theorem norm_rises (b : List Int) : Rises (normB b) := from_rises b [] List.Pairwise.nil
theorem norm_take (b : List Int) (k : Nat) (h : k < b.length) : normB (b.take (k + 1)) = insB b[k] (normB (b.take k)) := by
  unfold normB; rw [List.take_succ_eq_append_getElem h, from_snoc]

/-- two that rise are one, if they have each as often -/
theorem rises_one : ∀ {a b : List Int}, Rises a → Rises b → (∀ o, a.count o = b.count o) → a = b
  | [], [], _, _, _ => rfl
  | [], y :: b, _, _, h => by have := h y; simp at this
  | x :: a, [], _, _, h => by have := h x; simp at this
  | x :: a, y :: b, ha, hb, h => by
    obtain ⟨a1, a2⟩ := List.pairwise_cons.1 ha
    obtain ⟨b1, b2⟩ := List.pairwise_cons.1 hb
    have hxy : x = y := by
      have hx : x ∈ y :: b := by rw [← List.count_pos_iff, ← h x]; simp
      have hy : y ∈ x :: a := by rw [← List.count_pos_iff, h y]; simp
      have h1 : y ≤ x := by
        rcases List.mem_cons.1 hx with e | e
        · omega
        · exact b1 x e
      have h2 : x ≤ y := by
        rcases List.mem_cons.1 hy with e | e
        · omega
        · exact a1 y e
      omega
    subst hxy
    rw [rises_one a2 b2 fun o => by have := h o; rw [List.count_cons, List.count_cons] at this; omega]
theorem norm_iff {a b : List Int} : normB a = normB b ↔ ∀ o, a.count o = b.count o := by
  constructor
  · intro h o
    rw [← norm_count a, ← norm_count b, h]
  · intro h
    exact rises_one (norm_rises a) (norm_rises b) fun o => by rw [norm_count, norm_count, h]
theorem norm_norm (b : List Int) : normB (normB b) = normB b := norm_iff.2 fun o => norm_count b o
theorem norm_of_rises {a : List Int} (h : Rises a) : normB a = a := rises_one (norm_rises a) h fun o => norm_count a o
theorem len_of_count : ∀ {a b : List Int}, (∀ o, a.count o = b.count o) → a.length = b.length := fun {a b} h => by
  rw [← norm_len a, ← norm_len b, norm_iff.2 h]

/-! ### add -/
theorem del_count (o p : Int) : ∀ (k : Nat) (l : List Int), (delB o k l).count p = if p = o then l.count o - k else l.count p
  | _, [] => by simp [delB]
  | k, x :: l => by
    unfold delB
    split
    · rename_i h
      obtain ⟨rfl, hk⟩ := h
      rw [del_count x p (k - 1) l]
      by_cases e : p = x
      · subst e; rw [if_pos rfl, if_pos rfl]; simp; omega
      · rw [if_neg e, if_neg e, List.count_cons]
        have : (x == p) = false := by simp; omega
        simp [this]
    · rename_i h
      rw [List.count_cons, del_count o p k l]
      by_cases e : p = o
      · subst e
        rw [if_pos rfl, if_pos rfl, List.count_cons]
        by_cases e2 : x = p
        · have hk : k = 0 := by
            rcases Nat.eq_zero_or_pos k with h0 | h0
            · exact h0
            · exact absurd ⟨e2, h0⟩ h
          subst hk; simp
        · have : (x == p) = false := by simp [e2]
          simp [this]
      · rw [if_neg e, if_neg e, List.count_cons]
theorem del_le (o : Int) : ∀ (k : Nat) (l : List Int), (delB o k l).length ≤ l.length
  | _, [] => by simp [delB]
  | k, x :: l => by
    unfold delB
    split
    · have := del_le o (k - 1) l; simp; omega
    · have := del_le o k l; simp; omega
/-- more than there are is as many as there are -/
theorem del_more (o : Int) : ∀ (k : Nat) (l : List Int), l.length ≤ k → delB o k l = delB o l.length l
  | _, [], _ => by simp [delB]
  | k, x :: l, h => by
    have hk : l.length + 1 ≤ k := by simpa using h
    have hkey : ∀ (m n : Nat) (l : List Int), l.length ≤ m → l.length ≤ n → delB o m l = delB o n l := by
      intro m n l
      induction l generalizing m n with
      | nil => intro _ _; simp [delB]
      | cons y l ih =>
        intro hm hn
        simp at hm hn
        by_cases e : y = o
        · simp only [delB, e, true_and]
          rw [if_pos (by omega), if_pos (by omega)]
          exact ih _ _ (by omega) (by omega)
        · simp only [delB, e, false_and, if_false]
          rw [ih m n (by omega) (by omega)]
    exact hkey _ _ _ h (Nat.le_refl _)
theorem add_count (b : List Int) (o n p : Int) : (addB b o n).count p = if p = o then b.count o - (-n).toNat + min n.toNat 1000 else b.count p := by
  unfold addB
  rw [norm_count, List.count_append, del_count, List.count_replicate]
  by_cases e : p = o
  · subst e; simp
  · rw [if_neg e, if_neg e]
    have : (o == p) = false := by simp; omega
    simp [this]
theorem add_rises (b : List Int) (o n : Int) : Rises (addB b o n) := norm_rises _
theorem sum_count (a b : List Int) (o : Int) : (sumB a b).count o = a.count o + b.count o := by unfold sumB; rw [norm_count, List.count_append]

/-! ### less -/
theorem lessFrom_some : ∀ (b out : List Int), Rises out → (∀ o, b.count o ≤ out.count o) → ∃ l, lessFrom out b = some l ∧ Rises l ∧ ∀ o, l.count o = out.count o - b.count o
  | [], out, hr, _ => ⟨out, rfl, hr, by simp⟩
  | x :: b, out, hr, h => by
    have hx : countB out x ≠ 0 := by
      have := h x
      unfold countB
      simp at this; omega
    unfold lessFrom
    rw [if_neg hx]
    have hc : ∀ o, (addB out x (-1)).count o = out.count o - (if x = o then 1 else 0) := fun o => by
      rw [add_count]
      by_cases e : o = x
      · subst e; simp
      · rw [if_neg e, if_neg (fun e' => e e'.symm)]; simp
    obtain ⟨l, h1, h2, h3⟩ := lessFrom_some b (addB out x (-1)) (add_rises _ _ _) fun o => by
      have := h o
      rw [hc, List.count_cons] at *
      by_cases e : x = o
      · subst e; simp at this ⊢; omega
      · have e2 : (x == o) = false := by simp [e]
        simp [e, e2] at this ⊢; exact this
    refine ⟨l, h1, h2, fun o => ?_⟩
    rw [h3, hc, List.count_cons]
    by_cases e : x = o
    · subst e; simp; omega
    · have e2 : (x == o) = false := by simp [e]
      simp [e, e2]
theorem lessFrom_none : ∀ (b out : List Int), (∃ o, out.count o < b.count o) → lessFrom out b = none
  | [], out, h => by obtain ⟨o, h⟩ := h; simp at h
  | x :: b, out, h => by
    unfold lessFrom
    split
    · rfl
    · rename_i hx
      unfold countB at hx
      obtain ⟨o, ho⟩ := h
      refine lessFrom_none b _ ⟨o, ?_⟩
      rw [add_count]
      rw [List.count_cons] at ho
      by_cases e : o = x
      · subst e; simp at ho ⊢; omega
      · have e2 : (x == o) = false := by simp; omega
        rw [if_neg e]; simp [e2] at ho; exact ho
theorem less_some {a b : List Int} (h : ∀ o, b.count o ≤ a.count o) : ∃ l, lessB a b = some l ∧ Rises l ∧ ∀ o, l.count o = a.count o - b.count o := by
  obtain ⟨l, h1, h2, h3⟩ := lessFrom_some b (normB a) (norm_rises a) fun o => by rw [norm_count]; exact h o
  exact ⟨l, h1, h2, fun o => by rw [h3, norm_count]⟩
theorem less_none {a b : List Int} (h : ∃ o, a.count o < b.count o) : lessB a b = none := by
  obtain ⟨o, h⟩ := h
  exact lessFrom_none b _ ⟨o, by rw [norm_count]; exact h⟩
theorem same_iff {a b : List Int} : sameB a b = true ↔ ∀ o, a.count o = b.count o := by unfold sameB; rw [decide_eq_true_eq]; exact norm_iff
end Go.Proofs.Ythjdjkcdlknhbaa
/- Layer bag: keys that rise, each as often as it is counted: the norm. -/
namespace Go.Proofs.Ythjdjkcdlknhbaa

def spread (c : Int → Nat) : List Int → List Int
  | [] => []
  | k :: ks => List.replicate (c k) k ++ spread c ks
theorem spread_append (c : Int → Nat) : ∀ a b : List Int, spread c (a ++ b) = spread c a ++ spread c b
  | [], _ => rfl
  | x :: a, b => by simp [spread, spread_append c a b]
theorem spread_take (c : Int → Nat) (ks : List Int) (j : Nat) (h : j < ks.length) : spread c (ks.take (j + 1)) = spread c (ks.take j) ++ List.replicate (c ks[j]) ks[j] := by
  rw [List.take_succ_eq_append_getElem h, spread_append]; simp [spread]
theorem spread_le (c : Int → Nat) (ks : List Int) (j : Nat) : (spread c (ks.take j)).length ≤ (spread c ks).length := by
  have h := spread_append c (ks.take j) (ks.drop j)
  rw [List.take_append_drop] at h
  rw [h, List.length_append]; omega
theorem spread_mem {c : Int → Nat} {x : Int} : ∀ {ks : List Int}, x ∈ spread c ks → x ∈ ks
  | [], h => by simp [spread] at h
  | k :: ks, h => by
    simp only [spread, List.mem_append, List.mem_replicate] at h
    rcases h with ⟨_, rfl⟩ | h
    · simp
    · exact List.mem_cons_of_mem _ (spread_mem h)
theorem spread_rises {c : Int → Nat} : ∀ {ks : List Int}, Rises ks → Rises (spread c ks)
  | [], _ => List.Pairwise.nil
  | k :: ks, h => by
    obtain ⟨h1, h2⟩ := List.pairwise_cons.1 h
    refine List.pairwise_append.2 ⟨?_, spread_rises h2, fun x hx y hy => ?_⟩
    · exact List.pairwise_replicate.2 (.inr (Int.le_refl _))
    · rw [(List.mem_replicate.1 hx).2]
      exact h1 y (spread_mem hy)
theorem spread_count {c : Int → Nat} {o : Int} : ∀ {ks : List Int}, ks.Nodup → (spread c ks).count o = if o ∈ ks then c o else 0
  | [], _ => by simp [spread]
  | k :: ks, h => by
    obtain ⟨h1, h2⟩ := List.nodup_cons.1 h
    rw [spread, List.count_append, List.count_replicate, spread_count h2]
    by_cases e : k = o
    · subst e; simp [h1]
    · have e2 : (k == o) = false := by simp [e]
      have e3 : ¬ o = k := fun h => e h.symm
      simp [e2, e3]
theorem spread_norm {c : Int → Nat} {ks b : List Int} (hs : Rises ks) (hn : ks.Nodup) (hc : ∀ o, c o = b.count o) (hm : ∀ o, o ∈ b → o ∈ ks) : spread c ks = normB b := by
  refine rises_one (spread_rises hs) (norm_rises b) fun o => ?_
  rw [spread_count hn, norm_count]
  split
  · exact hc o
  · rename_i h
    symm
    exact List.count_eq_zero.2 fun h' => h (hm o h')
/-- what a sort of all keys makes -/
theorem sort_rises (ss : List Int) : Rises (ss.mergeSort fun x y => decide (x ≤ y)) := by
  have := List.pairwise_mergeSort (le := fun x y : Int => decide (x ≤ y)) (fun a b c h1 h2 => by simp only [decide_eq_true_eq] at *; omega) (fun a b => by simp only [Bool.or_eq_true, decide_eq_true_eq]; omega) ss
  exact this.imp fun h => by simpa using h
theorem sort_nodup {ss : List Int} (h : ss.Nodup) : (ss.mergeSort fun x y => decide (x ≤ y)).Nodup := (List.mergeSort_perm ss _).nodup_iff.2 h
theorem sort_mem {ss : List Int} {o : Int} : o ∈ (ss.mergeSort fun x y => decide (x ≤ y)) ↔ o ∈ ss := (List.mergeSort_perm ss _).mem_iff
theorem nodup_len_le : ∀ {ks b : List Int}, ks.Nodup → (∀ o ∈ ks, o ∈ b) → ks.length ≤ b.length
  | [], _, _, _ => by simp
  | k :: ks, b, hn, hm => by
    obtain ⟨h1, h2⟩ := List.nodup_cons.1 hn
    have hk := hm k (by simp)
    have h := nodup_len_le (ks := ks) (b := b.erase k) h2 fun o ho => (List.mem_erase_of_ne (show o ≠ k from fun e => h1 (by rw [← e]; exact ho))).2 (hm o (by simp [ho]))
    rw [List.length_erase_of_mem hk] at h
    have := List.length_pos_of_mem hk
    simp; omega
theorem len_le_count : ∀ {l a : List Int}, (∀ o, l.count o ≤ a.count o) → l.length ≤ a.length
  | [], _, _ => by simp
  | x :: l, a, h => by
    have hx : x ∈ a := List.count_pos_iff.1 (by have := h x; rw [List.count_cons_self] at this; omega)
    have h2 := len_le_count (l := l) (a := a.erase x) fun o => by
      have := h o
      rw [List.count_cons] at this
      rw [List.count_erase]
      by_cases e : x = o
      · subst e; simp at this ⊢; omega
      · have e1 : (x == o) = false := by simp [e]
        simp [e1] at this ⊢; exact this
    rw [List.length_erase_of_mem hx] at h2
    have := List.length_pos_of_mem hx
    simp; omega
end Go.Proofs.Ythjdjkcdlknhbaa
/- Layer bag: plain facts for the laws. No program in this text. -/
namespace Go.Proofs.Ythjdjkcdlknhbaa

theorem same_refl (a : List Int) : sameB a a = true := same_iff.2 fun _ => rfl
theorem same_comm (a b : List Int) : sameB a b = sameB b a := by
  rw [Bool.eq_iff_iff, same_iff, same_iff]
  exact ⟨fun h o => (h o).symm, fun h o => (h o).symm⟩
theorem same_trans {a b c : List Int} (h : sameB a b = true) (k : sameB b c = true) : sameB a c = true := same_iff.2 fun o => (same_iff.1 h o).trans (same_iff.1 k o)
theorem same_len {a b : List Int} (h : sameB a b = true) : a.length = b.length := len_of_count (same_iff.1 h)
theorem same_perm {a b : List Int} (h : sameB a b = true) : a.Perm b := List.perm_iff_count.2 (same_iff.1 h)
theorem same_add (a : List Int) (o : Int) : sameB a (addB a o 1) = false := by
  rw [← Bool.not_eq_true, same_iff]
  intro h
  have := h o
  rw [add_count, if_pos rfl] at this
  simp at this
theorem same_norm (a : List Int) : sameB (normB a) a = true := same_iff.2 fun o => norm_count a o
theorem add_len (b : List Int) (o n : Int) : (addB b o n).length + min (b.count o) (-n).toNat = b.length + min n.toNat 1000 := by
  unfold addB
  rw [norm_len, List.length_append, List.length_replicate]
  have : ∀ (k : Nat) (l : List Int), (delB o k l).length + min (l.count o) k = l.length := fun k l => by
    induction l generalizing k with
    | nil => simp [delB]
    | cons x l ih =>
      unfold delB
      split
      · rename_i h
        obtain ⟨rfl, hk⟩ := h
        have := ih (k - 1)
        rw [List.count_cons_self]; simp only [List.length_cons]; omega
      · rename_i h
        have := ih k
        rw [List.count_cons, List.length_cons, List.length_cons]
        by_cases e : x = o
        · have hk : k = 0 := by
            rcases Nat.eq_zero_or_pos k with h0 | h0
            · exact h0
            · exact absurd ⟨e, h0⟩ h
          subst hk; simp at this ⊢; omega
        · have e2 : (x == o) = false := by simp [e]
          simp [e2] at this ⊢; omega
  have := this (-n).toNat b
  omega
theorem sum_len (a b : List Int) : (sumB a b).length = a.length + b.length := by unfold sumB; rw [norm_len, List.length_append]
theorem sum_same (a b : List Int) : sameB (sumB a b) (sumB b a) = true := same_iff.2 fun o => by rw [sum_count, sum_count]; omega
/-- what was summed is left when one part is taken out -/
theorem less_sum1 (a b : List Int) : ∃ l, lessB (sumB a b) a = some l ∧ sameB l b = true := by
  obtain ⟨l, h1, _, h3⟩ := less_some (a := sumB a b) (b := a) fun o => by rw [sum_count]; omega
  exact ⟨l, h1, same_iff.2 fun o => by rw [h3, sum_count]; omega⟩
theorem less_sum2 (a b : List Int) : ∃ l, lessB (sumB a b) b = some l ∧ sameB l a = true := by
  obtain ⟨l, h1, _, h3⟩ := less_some (a := sumB a b) (b := b) fun o => by rw [sum_count]; omega
  exact ⟨l, h1, same_iff.2 fun o => by rw [h3, sum_count]; omega⟩
/-- all of b is there so often -/
def enough (a b : List Int) : Bool := b.all fun x => decide (b.count x ≤ a.count x)
theorem less_yes {a b : List Int} (h : enough a b = true) : ∃ l, lessB a b = some l ∧ sameB (sumB l b) a = true ∧ l.length + b.length = a.length := by
  have hle : ∀ o, b.count o ≤ a.count o := fun o => by
    by_cases ho : o ∈ b
    · have := List.all_eq_true.1 h o ho
      simpa using this
    · rw [List.count_eq_zero.2 ho]; omega
  obtain ⟨l, h1, _, h3⟩ := less_some hle
  have hs : sameB (sumB l b) a = true := same_iff.2 fun o => by rw [sum_count, h3]; have := hle o; omega
  refine ⟨l, h1, hs, ?_⟩
  have := same_len hs
  rw [sum_len] at this
  exact this
theorem less_no {a b : List Int} (h : enough a b = false) : lessB a b = none := by
  unfold enough at h
  rw [List.all_eq_false] at h
  obtain ⟨x, _, hx⟩ := h
  exact less_none ⟨x, by simpa using hx⟩
/-- of the first k all are there so often -/
def pre (a b : List Int) (k : Nat) : Bool := (b.take k).all fun x => decide (b.count x ≤ a.count x)
theorem pre_zero (a b : List Int) : pre a b 0 = true := rfl
theorem pre_end (a b : List Int) : pre a b b.length = enough a b := by unfold pre enough; rw [List.take_length]
theorem pre_succ (a b : List Int) {k : Nat} (h : k < b.length) : pre a b (k + 1) = (pre a b k && decide (b.count b[k] ≤ a.count b[k])) := by
  unfold pre
  rw [List.take_succ_eq_append_getElem h, List.all_append]; simp
/-- one that is added so often -/
theorem adds_back (a : List Int) (o : Int) (k : Nat) (hk : k ≤ 1000) : sameB (addB (addB a o k) o (-(k : Int))) a = true := same_iff.2 fun p => by
  rw [add_count, add_count, add_count]
  by_cases e : p = o
  · subst e; rw [if_pos rfl, if_pos rfl]; omega
  · rw [if_neg e, if_neg e]
theorem adds_up (a : List Int) (o : Int) (k : Nat) (hk : k ≤ 1000) : (((addB a o k).count o : Nat) : Int) = (a.count o : Nat) + (k : Int) := by
  rw [add_count, if_pos rfl]; omega
theorem adds_down (a : List Int) (o : Int) (k : Nat) : (((addB a o (-(k : Int))).count o : Nat) : Int) = max (((a.count o : Nat) : Int) - k) 0 := by
  rw [add_count, if_pos rfl]; omega
theorem adds_len (a : List Int) (o : Int) (k : Nat) : (((addB a o (-(k : Int))).length : Nat) : Int) = (a.length : Int) - min ((a.count o : Nat) : Int) k := by
  have h := add_len a o (-(k : Int))
  have h2 : a.count o ≤ a.length := List.count_le_length
  omega
theorem adds_none (a : List Int) (o : Int) (n : Int) (h : n = -4611686018427387904) (hl : a.length ≤ 17592186044416) : (addB a o n).count o = 0 := by
  have h2 : a.count o ≤ a.length := List.count_le_length
  rw [add_count, if_pos rfl, h]; omega
theorem rises_at {l : List Int} (h : Rises l) {i : Nat} (h1 : i + 1 < l.length) : l[i] ≤ l[i + 1] := List.pairwise_iff_getElem.1 h i (i + 1) (by omega) h1 (by omega)
end Go.Proofs.Ythjdjkcdlknhbaa
/- The library contracts at this translation, laid by the shelf in plain words. -/
namespace Go.Proofs
open Go.Shelf
def Try.keysA_ren : Go.Shelf.Ren := ⟨fun | 7 => 66 | 10 => 74 | n => n, fun | 23 => 79 | 26 => 3 | 3 => 3 | 28 => 96 | 0 => 0 | 27 => 95 | 33 => 105 | 4 => 4 | n => n, fun | n => n⟩
theorem Try.keysA : Go.Proofs.SlLaysZI.n7 Try.prog Try.keysA_ren := {
  mixed := by kernel_rfl
  f7 := ⟨Try.f66.name, by decide, Try.func66.trans (congrArg some (by kernel_rfl))⟩
  f10 := ⟨Try.f74.name, by decide, Try.func74.trans (congrArg some (by kernel_rfl))⟩
  t0 := Try.underlying0
  a0 := Try.isAgg0
  z0 := Try.sizeOf0
  v0 := Try.zeroValue0
  t4 := Try.underlying4
  a4 := Try.isAgg4
  z4 := Try.sizeOf4
  v4 := Try.zeroValue4
  t23 := Try.underlying79
  a23 := Try.isAgg79
  z23 := Try.sizeOf79
  v23 := Try.zeroValue79
  t26 := Try.underlying3
  a26 := Try.isAgg3
  z26 := Try.sizeOf3
  v26 := Try.zeroValue3
  t27 := Try.underlying95
  a27 := Try.isAgg95
  z27 := Try.sizeOf95
  v27 := Try.zeroValue95
  t28 := Try.underlying96
  a28 := Try.isAgg96
  z28 := Try.sizeOf96
  v28 := Try.zeroValue96
  t33 := Try.underlying105
  a33 := Try.isAgg105
  z33 := Try.sizeOf105
  v33 := Try.zeroValue105 }
def Try.sortedA_ren : Go.Shelf.Ren := ⟨fun | 6 => 65 | 8 => 72 | 9 => 73 | 11 => 80 | 13 => 82 | 12 => 81 | 23 => 92 | 24 => 93 | 14 => 83 | 15 => 84 | 16 => 85 | 17 => 86 | 18 => 87 | 19 => 88 | 20 => 89 | 21 => 90 | 22 => 91 | 25 => 94 | 26 => 95 | 27 => 96 | 28 => 97 | 29 => 98 | 30 => 99 | 31 => 100 | n => n, fun | 26 => 3 | 28 => 96 | 24 => 34 | 0 => 0 | 3 => 3 | 37 => 113 | 48 => 124 | 50 => 24 | 4 => 4 | 40 => 116 | 39 => 115 | 45 => 121 | 5 => 5 | 9 => 9 | 51 => 126 | 55 => 130 | 57 => 132 | 58 => 133 | 33 => 105 | n => n, fun | n => n⟩
theorem Try.sortedA : Go.Proofs.SlLaysZI.n6 Try.prog Try.sortedA_ren := {
  mixed := by kernel_rfl
  f6 := ⟨Try.f65.name, by decide, Try.func65.trans (congrArg some (by kernel_rfl))⟩
  f8 := ⟨Try.f72.name, by decide, Try.func72.trans (congrArg some (by kernel_rfl))⟩
  f11 := ⟨Try.f80.name, by decide, Try.func80.trans (congrArg some (by kernel_rfl))⟩
  t0 := Try.underlying0
  a0 := Try.isAgg0
  z0 := Try.sizeOf0
  v0 := Try.zeroValue0
  t24 := Try.underlying34
  a24 := Try.isAgg34
  z24 := Try.sizeOf34
  v24 := Try.zeroValue34
  t26 := Try.underlying3
  a26 := Try.isAgg3
  z26 := Try.sizeOf3
  v26 := Try.zeroValue3
  t28 := Try.underlying96
  a28 := Try.isAgg96
  z28 := Try.sizeOf96
  v28 := Try.zeroValue96
  i26 := by kernel_rfl }
def Try.sortA_ren : Go.Shelf.Ren := ⟨fun | 5 => 73 | 8 => 82 | 7 => 81 | 19 => 92 | 20 => 93 | 10 => 83 | 11 => 84 | 12 => 85 | 13 => 86 | 14 => 87 | 15 => 88 | 16 => 89 | 17 => 90 | 18 => 91 | 30 => 94 | 31 => 95 | 32 => 96 | 33 => 97 | 34 => 98 | 35 => 99 | 40 => 100 | n => n, fun | 23 => 34 | 25 => 3 | 3 => 3 | 32 => 113 | 22 => 34 | 0 => 0 | 44 => 124 | 46 => 24 | 4 => 4 | 36 => 116 | 35 => 115 | 41 => 121 | 5 => 5 | 9 => 9 | 53 => 126 | 57 => 130 | 63 => 132 | 64 => 133 | n => n, fun | n => n⟩
theorem Try.sortA : Go.Proofs.SlLaysM.n5 Try.prog Try.sortA_ren := {
  mixed := by kernel_rfl
  f5 := ⟨Try.f73.name, by decide, Try.func73.trans (congrArg some (by kernel_rfl))⟩
  f7 := ⟨Try.f81.name, by decide, Try.func81.trans (congrArg some (by kernel_rfl))⟩
  f8 := Try.func82.trans (congrArg some (by kernel_rfl))
  f10 := ⟨Try.f83.name, by decide, Try.func83.trans (congrArg some (by kernel_rfl))⟩
  f11 := ⟨Try.f84.name, by decide, Try.func84.trans (congrArg some (by kernel_rfl))⟩
  f12 := ⟨Try.f85.name, by decide, Try.func85.trans (congrArg some (by kernel_rfl))⟩
  f13 := ⟨Try.f86.name, by decide, Try.func86.trans (congrArg some (by kernel_rfl))⟩
  f14 := ⟨Try.f87.name, by decide, Try.func87.trans (congrArg some (by kernel_rfl))⟩
  f15 := ⟨Try.f88.name, by decide, Try.func88.trans (congrArg some (by kernel_rfl))⟩
  f16 := ⟨Try.f89.name, by decide, Try.func89.trans (congrArg some (by kernel_rfl))⟩
  f17 := ⟨Try.f90.name, by decide, Try.func90.trans (congrArg some (by kernel_rfl))⟩
  f18 := ⟨Try.f91.name, by decide, Try.func91.trans (congrArg some (by kernel_rfl))⟩
  f19 := Try.func92.trans (congrArg some (by kernel_rfl))
  f20 := Try.func93.trans (congrArg some (by kernel_rfl))
  f30 := ⟨Try.f94.name, by decide, Try.func94.trans (congrArg some (by kernel_rfl))⟩
  f31 := Try.func95.trans (congrArg some (by kernel_rfl))
  f32 := Try.func96.trans (congrArg some (by kernel_rfl))
  f33 := ⟨Try.f97.name, by decide, Try.func97.trans (congrArg some (by kernel_rfl))⟩
  f34 := ⟨Try.f98.name, by decide, Try.func98.trans (congrArg some (by kernel_rfl))⟩
  f35 := ⟨Try.f99.name, by decide, Try.func99.trans (congrArg some (by kernel_rfl))⟩
  f40 := ⟨Try.f100.name, by decide, Try.func100.trans (congrArg some (by kernel_rfl))⟩
  t0 := Try.underlying0
  a0 := Try.isAgg0
  z0 := Try.sizeOf0
  v0 := Try.zeroValue0
  t3 := Try.underlying3
  a3 := Try.isAgg3
  z3 := Try.sizeOf3
  v3 := Try.zeroValue3
  t4 := Try.underlying4
  a4 := Try.isAgg4
  z4 := Try.sizeOf4
  v4 := Try.zeroValue4
  t5 := Try.underlying5
  a5 := Try.isAgg5
  z5 := Try.sizeOf5
  v5 := Try.zeroValue5
  t9 := Try.underlying9
  a9 := Try.isAgg9
  z9 := Try.sizeOf9
  v9 := Try.zeroValue9
  t22 := Try.underlying34
  a22 := Try.isAgg34
  z22 := Try.sizeOf34
  v22 := Try.zeroValue34
  t23 := Try.underlying34
  a23 := Try.isAgg34
  z23 := Try.sizeOf34
  v23 := Try.zeroValue34
  t25 := Try.underlying3
  a25 := Try.isAgg3
  z25 := Try.sizeOf3
  v25 := Try.zeroValue3
  t32 := Try.underlying113
  a32 := Try.isAgg113
  z32 := Try.sizeOf113
  v32 := Try.zeroValue113
  t35 := Try.underlying115
  a35 := Try.isAgg115
  z35 := Try.sizeOf115
  v35 := Try.zeroValue115
  t36 := Try.underlying116
  a36 := Try.isAgg116
  z36 := Try.sizeOf116
  v36 := Try.zeroValue116
  t41 := Try.underlying121
  a41 := Try.isAgg121
  z41 := Try.sizeOf121
  v41 := Try.zeroValue121
  t44 := Try.underlying124
  a44 := Try.isAgg124
  z44 := Try.sizeOf124
  v44 := Try.zeroValue124
  t46 := Try.underlying24
  a46 := Try.isAgg24
  z46 := Try.sizeOf24
  v46 := Try.zeroValue24
  t53 := Try.underlying126
  a53 := Try.isAgg126
  z53 := Try.sizeOf126
  v53 := Try.zeroValue126
  t57 := Try.underlying130
  a57 := Try.isAgg130
  z57 := Try.sizeOf130
  v57 := Try.zeroValue130
  t63 := Try.underlying132
  a63 := Try.isAgg132
  z63 := Try.sizeOf132
  v63 := Try.zeroValue132
  t64 := Try.underlying133
  a64 := Try.isAgg133
  z64 := Try.sizeOf133
  v64 := Try.zeroValue133 }
end Go.Proofs
/- Maps: 'm[k]++' as the translation has it (look-up, entry, store into the entry), whatever the key's type. -/
namespace Go.Proofs.Ythjdjkcdlknhbaa
open Go.RowKit Go.Maps Go.ChangeMaps Go.WideElems Go.ChangeShapes Go.WideShapes Go.MapKept

theorem setBlock_twice {w : World} {b : Nat} (o1 o2 : Obj) : setBlock (setBlock w b o1) b o2 = setBlock w b o2 := by
  simp [setBlock]

theorem map_bump {H : Type} {P : Program} {w : World} {t k e : TypeId} {b n : Nat} {D : DataW H} (hown : w.ownsMap P k (plainElem P e) b n D) (K : Keyed P k) (ht : P.underlying t = some (.map k e))
    (he : P.underlying e = some (.int .i64)) (hz : ∀ u : World, (zeroValue e).run P u = .ok (.int .i64 0) u) (hn : n < maxLen) {key : Value} {kl : Lit} (hkey : keyOf P k key = some kl) :
    ∃ (c st : Int) (w2 : World), D.atKey kl (.lit (.int .i64 0)) = .lit (.int .i64 c) ∧ (Lit.int .i64 c).wf = true ∧
      (Instr.lookup t (.map (some b)) key false).run P w = .ok (.int .i64 c) w ∧
      (Instr.mapEntry t (.map (some b)) key).run P w = .ok (.tuple #[.int .i64 c, .int .i64 st]) w2 ∧
      (Instr.lookup t (.map (some b)) key false).run P w2 = .ok (.int .i64 c) w2 ∧ w.grownBy w2 (some b) ∧
      ∀ c' : Int, (Lit.int .i64 c').wf = true → ∃ w4, (Instr.entryStore t (.map (some b)) (.int .i64 st) (.int .i64 c')).run P w2 = .ok () w4 ∧
        w4.ownsMap P k (plainElem P e) b (n + 1) (D.put kl (.lit (.int .i64 c'))) ∧ w.grownBy w4 (some b) := by
  obtain ⟨c, hrun, hat, hwc⟩ := hown.lookup_int K ht he (hz w) hkey
  have hup := fun (c' : Int) (hc' : (Lit.int .i64 c').wf = true) => hown.update K ht hn hkey (plainElem_int (H := H) he hc')
  obtain ⟨es, clock, hb, F, hs, rfl⟩ := hown
  obtain ⟨s1, s2, s3⟩ := F.stamped
  have hgr : ∀ o : Obj, w.grownBy (setBlock w b o) (some b) := fun o => ⟨rfl, rfl, rfl, by simp [setBlock], fun i _ hi => heap_setBlock_other hb _ (fun e => hi (by rw [e]))⟩
  rcases K.find w hkey es.toList F.keys with ⟨h1, h2⟩ | ⟨j, e0, h1, h2, h3⟩
  · have hc0 : c = 0 := by
      have hl : (Instr.lookup t (.map (some b)) key false).run P w = .ok (.int .i64 0) w := by
        simp [Instr.lookup, run_underlying ht, MapKept.run_getObj_map hb, K.check w _ hkey, h1, hz, Result.andThen]
      rw [hrun] at hl; injection hl with hl _; injection hl
    subst hc0
    have hw2 := heap_setBlock_same hb (.map (es.push ⟨key, .int .i64 0, clock⟩) (clock + 1))
    refine ⟨0, clock, setBlock w b (.map (es.push ⟨key, .int .i64 0, clock⟩) (clock + 1)), hat, hwc, hrun, ?_, ?_, hgr _, fun c' hc' => ?_⟩
    · simp [Instr.mapEntry, run_underlying ht, MapKept.run_getObj_map hb, K.check w false hkey, h1, hz, MapKept.run_setObj_map _ hb, Result.andThen, setBlock, goInt]
    · have hkeys : ∀ x ∈ (es.push ⟨key, .int .i64 0, clock⟩).toList, ∃ l, keyOf P k x.key = some l := by
        intro x hx
        simp only [Array.toList_push, List.mem_append, List.mem_singleton] at hx
        rcases hx with hx | rfl
        · exact F.keys x hx
        · exact ⟨_, hkey⟩
      rcases K.find (setBlock w b (.map (es.push ⟨key, .int .i64 0, clock⟩) (clock + 1))) hkey _ hkeys with ⟨_, g2⟩ | ⟨j, e1, g1, g2, g3⟩
      · exact absurd rfl (g2 ⟨key, .int .i64 0, clock⟩ (by simp))
      · have hv : e1.val = .int .i64 0 := by
          have hm := List.mem_of_getElem? g2
          simp only [Array.toList_push, List.mem_append, List.mem_singleton] at hm
          rcases hm with hm | rfl
          · exact absurd g3 (h2 e1 hm)
          · rfl
        rw [hv] at g1
        simp only [Array.toList_push] at g1
        simp [Instr.lookup, run_underlying ht, MapKept.run_getObj_map hw2, K.check _ _ hkey, g1, Result.andThen]
    · obtain ⟨w4, hu, ho, hg⟩ := hup c' hc'
      refine ⟨w4, ?_, ho, hg⟩
      have hidx : (es.push ⟨key, .int .i64 0, clock⟩).findIdx? (fun e => ((e.born : Nat) : Int) == ((clock : Nat) : Int)) = some es.size := by
        rw [findIdx_arr]
        exact findIdx_born (l := (es.push ⟨key, .int .i64 0, clock⟩).toList) (j := es.size) (e0 := ⟨key, .int .i64 0, clock⟩) (by
          simp only [Array.toList_push, List.map_append, List.map_cons, List.map_nil]
          refine List.nodup_append.2 ⟨s2, by simp, fun a ha c hc e1 => ?_⟩
          simp only [List.mem_singleton] at hc
          obtain ⟨x, hx, rfl⟩ := List.mem_map.1 ha
          have := s1 x hx
          omega) (by simp)
      have hmod : (es.push ⟨key, .int .i64 0, clock⟩).modify es.size (fun e => { e with val := .int .i64 c' }) = es.push ⟨key, .int .i64 c', clock⟩ := by
        apply Array.ext'
        rw [Array.toList_modify, Array.toList_push, Array.toList_push, ← Array.length_toList, modify_last]
      have hu' : (Instr.mapUpdate t (.map (some b)) key (.int .i64 c')).run P w = .ok () (setBlock w b (.map (es.push ⟨key, .int .i64 c', clock⟩) (clock + 1))) := by
        simp [Instr.mapUpdate, run_underlying ht, MapKept.run_getObj_map hb, K.check w false hkey, h1, MapKept.run_setObj_map _ hb, Result.andThen, setBlock]
      rw [hu] at hu'
      injection hu' with _ hw4
      rw [hw4, ← setBlock_twice (w := w) (b := b) (.map (es.push ⟨key, .int .i64 0, clock⟩) (clock + 1)) (.map (es.push ⟨key, .int .i64 c', clock⟩) (clock + 1))]
      generalize setBlock w b (.map (es.push ⟨key, .int .i64 0, clock⟩) (clock + 1)) = W2 at hw2 ⊢
      simp [Instr.entryStore, MapKept.run_getObj_map hw2, asInt, asIntOf, hidx, hmod, MapKept.run_setObj_map _ hw2, Result.andThen, setBlock]
  · have hj : es[j]? = some e0 := by simpa using h2
    have hv0 : e0.val = .int .i64 c := by
      have hl : (Instr.lookup t (.map (some b)) key false).run P w = .ok e0.val w := by
        simp [Instr.lookup, run_underlying ht, MapKept.run_getObj_map hb, K.check w _ hkey, h1, Result.andThen]
      rw [hrun] at hl; injection hl with hl _; exact hl.symm
    have hsame : es.modify j (fun e => { e with key := key }) = es := by
      apply Array.ext'
      rw [Array.toList_modify, modify_eq_set _ _ _ _ h2]
      have : ({ e0 with key := key } : MapEntry) = e0 := by rw [← h3]
      rw [this]
      exact set_self _ _ _ h2
    have hw2 := heap_setBlock_same hb (.map es clock)
    refine ⟨c, e0.born, setBlock w b (.map es clock), hat, hwc, hrun, ?_, ?_, hgr _, fun c' hc' => ?_⟩
    · simp [Instr.mapEntry, run_underlying ht, MapKept.run_getObj_map hb, K.check w false hkey, h1, hj, h3, K.stays w hkey, hsame, MapKept.run_setObj_map _ hb, Result.andThen, setBlock, hv0, goInt]
    · rcases K.find (setBlock w b (.map es clock)) hkey es.toList F.keys with ⟨_, g2⟩ | ⟨j', e1, g1, g2, g3⟩
      · exact absurd h3 (g2 e0 (List.mem_of_getElem? h2))
      · have hv1 : e0.val = e1.val := by
          have hjj : j' = j := by
            refine (List.getElem?_inj (l := es.toList.map (·.key)) ?_ s3).1 ?_
            · have := (List.getElem?_eq_some_iff.1 g2).1; simpa using this
            · rw [List.getElem?_map, List.getElem?_map, g2, h2]; simp [g3, h3]
          subst hjj
          rw [g2] at h2
          injection h2 with h2; rw [h2]
        rw [← hv1, hv0] at g1
        simp [Instr.lookup, run_underlying ht, MapKept.run_getObj_map hw2, K.check _ _ hkey, g1, Result.andThen]
    · obtain ⟨w4, hu, ho, hg⟩ := hup c' hc'
      refine ⟨w4, ?_, ho, hg⟩
      have hidx : es.findIdx? (fun e => ((e.born : Nat) : Int) == ((e0.born : Nat) : Int)) = some j := by
        rw [findIdx_arr]
        exact findIdx_born s2 h2
      have hmod : es.modify j (fun e => { e with val := .int .i64 c' }) = es.modify j (fun e' => { e' with key := key, val := .int .i64 c' }) := by
        apply Array.ext'
        rw [Array.toList_modify, Array.toList_modify, modify_eq_set _ _ _ _ h2, modify_eq_set _ _ _ _ h2, ← h3]
      have hu' : (Instr.mapUpdate t (.map (some b)) key (.int .i64 c')).run P w = .ok () (setBlock w b (.map (es.modify j (fun e' => { e' with key := key, val := .int .i64 c' })) clock)) := by
        simp [Instr.mapUpdate, run_underlying ht, MapKept.run_getObj_map hb, K.check w false hkey, h1, hj, h3, K.stays w hkey, MapKept.run_setObj_map _ hb, Result.andThen, setBlock]
      rw [hu] at hu'
      injection hu' with _ hw4
      rw [hw4, ← setBlock_twice (w := w) (b := b) (.map es clock) (.map (es.modify j (fun e' => { e' with key := key, val := .int .i64 c' })) clock)]
      generalize setBlock w b (.map es clock) = W2 at hw2 ⊢
      simp [Instr.entryStore, MapKept.run_getObj_map hw2, asInt, asIntOf, hidx, hmod, MapKept.run_setObj_map _ hw2, Result.andThen, setBlock]

/-- a map of counts: at each key that many, no entry where there is none; N entries -/
structure Cnt {α H : Type} (key : α → Lit) (Wf : α → Prop) (D : DataW H) (c : α → Nat) (N : Nat) : Prop where
  tidy : Maps.Tidy D
  at_ : ∀ p, Wf p → D.atKey (key p) (.lit (.int .i64 0)) = .lit (.int .i64 (c p : Nat))
  has_ : ∀ p, Wf p → Maps.has D (key p) = decide (0 < c p)
  size_ : Maps.size D = N
def upd {α : Type} [DecidableEq α] (c : α → Nat) (p : α) (n : Nat) : α → Nat := fun q => if q = p then n else c q
section
variable {α H : Type} [DecidableEq α] {key : α → Lit} {Wf : α → Prop} {D : DataW H} {c : α → Nat} {N : Nat}
omit [DecidableEq α] in
theorem Cnt.start : Cnt (H := H) key Wf (.map []) (fun _ => 0) 0 :=
  ⟨Maps.tidy_empty, fun _ _ => rfl, fun _ _ => rfl, rfl⟩
theorem Cnt.put (h : Cnt key Wf D c N) (hinj : ∀ p q, Wf p → Wf q → key p = key q → p = q) (hk : ∀ p, Wf p → WideAt.IsKeyLit (key p)) (p : α) (hp : Wf p) (n : Nat) (hn : 0 < n) :
    Cnt key Wf (D.put (key p) (.lit (.int .i64 (n : Nat)))) (upd c p n) (if c p = 0 then N + 1 else N) := by
  refine ⟨h.tidy.put (hk p hp) _, fun q hq => ?_, fun q hq => ?_, ?_⟩
  · unfold upd
    by_cases e : q = p
    · subst e; rw [if_pos rfl]; exact Maps.atKey_put_same h.tidy.isMap (hk q hq) _ _
    · rw [if_neg e, Maps.atKey_put_other (fun e' => e (hinj _ _ hq hp e')), h.at_ q hq]
  · unfold upd
    by_cases e : q = p
    · subst e; rw [if_pos rfl, Maps.has_put_same h.tidy.isMap (hk q hq)]; simp [hn]
    · rw [if_neg e, Maps.has_put_other (fun e' => e (hinj _ _ hq hp e')), h.has_ q hq]
  · rw [Maps.size_put h.tidy, h.has_ p hp, h.size_]
    by_cases e : c p = 0
    · simp [e]
    · have : 0 < c p := by omega
      simp [e, this]
theorem Cnt.del (h : Cnt key Wf D c N) (hinj : ∀ p q, Wf p → Wf q → key p = key q → p = q) (p : α) (hp : Wf p) (h1 : 0 < c p) :
    Cnt key Wf (D.del (key p)) (upd c p 0) (N - 1) := by
  refine ⟨h.tidy.del _, fun q hq => ?_, fun q hq => ?_, ?_⟩
  · unfold upd
    by_cases e : q = p
    · subst e; rw [if_pos rfl]; exact Maps.atKey_del_same _
    · rw [if_neg e, Maps.atKey_del_other (fun e' => e (hinj _ _ hq hp e')), h.at_ q hq]
  · unfold upd
    by_cases e : q = p
    · subst e; rw [if_pos rfl, Maps.has_del_same]; rfl
    · rw [if_neg e, Maps.has_del_other (fun e' => e (hinj _ _ hq hp e')), h.has_ q hq]
  · have := Maps.size_del (k := key p) h.tidy
    rw [h.has_ p hp, h.size_] at this
    simp [h1] at this
    omega
omit [DecidableEq α] in
theorem Cnt.same {c' : α → Nat} (h : Cnt key Wf D c N) (e : ∀ p, Wf p → c' p = c p) : Cnt key Wf D c' N :=
  ⟨h.tidy, fun p hp => by rw [h.at_ p hp, e p hp], fun p hp => by rw [h.has_ p hp, e p hp], h.size_⟩
end
end Go.Proofs.Ythjdjkcdlknhbaa
/- Maps of counts whose keys are ints, in a block of the call's own; an entry of 0 may be there. -/
namespace Go.Proofs.Ythjdjkcdlknhbaa
open Go.RowKit Go.Maps Go.ChangeMaps Go.WideElems Go.ChangeShapes Go.WideShapes Go.MapKept

/-- a number of 64 bits -/
def Kw (x : Int) : Prop := -9223372036854775808 ≤ x ∧ x ≤ 9223372036854775807
def AllK (l : List Int) : Prop := ∀ x ∈ l, Kw x
theorem Kw.wf {x : Int} (h : Kw x) : (Lit.int .i64 x).wf = true := WalkArith.wf_i64 h
def iK (x : Int) : Lit := .int .i64 x
theorem iK_inj {x y : Int} (h : iK x = iK y) : x = y := by simpa [iK] using h
theorem iK_lit (x : Int) : WideAt.IsKeyLit (iK x) := by simp [iK, WideAt.IsKeyLit]
theorem keyOf_int {P : Program} {k : TypeId} (hk : P.underlying k = some (.int .i64)) {x : Int} (h : Kw x) : keyOf P k (.int .i64 x) = some (iK x) := by
  simp [keyOf, hk, mapKey, iK, h.wf]
def updI (c : Int → Nat) (x : Int) (n : Nat) : Int → Nat := fun y => if y = x then n else c y

/-- block B is a map of counts; at most n entries; each key that is counted at all is there -/
def Tal (P : Program) (t : TypeId) (w : World) (B n : Nat) (c : Int → Nat) : Prop :=
  ∃ D : DataW Unit, w.ownsMap P t (plainElem P t) B n D ∧ (∀ x, Kw x → D.atKey (iK x) (.lit (.int .i64 0)) = .lit (.int .i64 (c x : Nat))) ∧ ∀ x, Kw x → 0 < c x → Maps.has D (iK x) = true
section
variable {P : Program} {t m : TypeId} {w w' : World} {B n : Nat} {c : Int → Nat}
theorem tal_new (w : World) : Tal P t (w.alloc (.map #[] 0)) w.heap.size 0 (fun _ => 0) :=
  ⟨.map [], World.ownsMap_made _ _ _ _, fun _ _ => rfl, fun _ _ h => absurd h (Nat.lt_irrefl 0)⟩
theorem Tal.lt (h : Tal P t w B n c) : B < w.heap.size := by obtain ⟨D, h1, _⟩ := h; exact h1.lt
theorem Tal.mono (h : Tal P t w B n c) {n' : Nat} (hn : n ≤ n') : Tal P t w B n' c := by obtain ⟨D, h1, h2⟩ := h; exact ⟨D, h1.mono hn, h2⟩
theorem Tal.below (h : Tal P t w B n c) (hb : Below w.heap.size w w') : Tal P t w' B n c := by
  obtain ⟨D, h1, h2⟩ := h
  exact ⟨D, h1.kept (grown_of_below hb none) (by simp), h2⟩
theorem Tal.alloc (h : Tal P t w B n c) (o : Obj) : Tal P t (w.alloc o) B n c := h.below ((Below.refl _ _).alloc (Nat.le_refl _) _)
theorem Tal.same (h : Tal P t w B n c) {c' : Int → Nat} (e : ∀ x, c' x = c x) : Tal P t w B n c' := by
  obtain rfl : c' = c := funext e
  exact h
/-- behind a write at x -/
theorem tal_put {D : DataW Unit} {x : Int} {v : Nat} (hown : w.ownsMap P t (plainElem P t) B n (D.put (iK x) (.lit (.int .i64 (v : Nat))))) (hD : IsMap D)
    (h1 : ∀ x, Kw x → D.atKey (iK x) (.lit (.int .i64 0)) = .lit (.int .i64 (c x : Nat))) (h2 : ∀ x, Kw x → 0 < c x → Maps.has D (iK x) = true) : Tal P t w B n (updI c x v) := by
  refine ⟨_, hown, fun y hy => ?_, fun y hy h0 => ?_⟩
  · unfold updI
    by_cases e : y = x
    · subst e; rw [if_pos rfl]; exact Maps.atKey_put_same hD (iK_lit y) _ _
    · rw [if_neg e, Maps.atKey_put_other (fun e' => e (iK_inj e')), h1 y hy]
  · unfold updI at h0
    by_cases e : y = x
    · subst e; exact Maps.has_put_same hD (iK_lit y) _
    · rw [if_neg e] at h0
      rw [Maps.has_put_other (fun e' => e (iK_inj e'))]; exact h2 y hy h0
/-- 'm[x]++', 'm[x]--' -/
theorem tal_bump (h : Tal P t w B n c) (hk : P.underlying t = some (.int .i64)) (hm : P.underlying m = some (.map t t)) (hz : ∀ u : World, (zeroValue t).run P u = .ok (.int .i64 0) u) (hn : n < maxLen) {x : Int} (hx : Kw x) :
    ∃ (st : Int) (w3 : World), (Instr.lookup m (.map (some B)) (.int .i64 x) false).run P w = .ok (.int .i64 (c x : Nat)) w ∧
      (Instr.mapEntry m (.map (some B)) (.int .i64 x)).run P w = .ok (.tuple #[.int .i64 (c x : Nat), .int .i64 st]) w3 ∧
      (Instr.lookup m (.map (some B)) (.int .i64 x) false).run P w3 = .ok (.int .i64 (c x : Nat)) w3 ∧ w.grownBy w3 (some B) ∧
      ∀ (v : Nat) (v' : Int), v' = (v : Int) → v ≤ 9000000000000000000 → ∃ w4, (Instr.entryStore m (.map (some B)) (.int .i64 st) (.int .i64 v')).run P w3 = .ok () w4 ∧ Tal P t w4 B (n + 1) (updI c x v) ∧ w.grownBy w4 (some B) := by
  obtain ⟨D, hown, h1, h2⟩ := h
  obtain ⟨c0, st, w3, hat0, _, hl1, he, hl2, hg3, hst⟩ := map_bump hown (int_keyed hk) hm hk hz hn (keyOf_int hk hx)
  obtain rfl : ((c x : Nat) : Int) = c0 := (by rw [h1 x hx] at hat0; injection hat0 with h; injection h)
  refine ⟨st, w3, hl1, he, hl2, hg3, fun v v' hv hle => ?_⟩
  subst hv
  obtain ⟨w4, hst, hown4, hg4⟩ := hst (v : Int) (WalkArith.wf_i64 (by omega))
  exact ⟨w4, hst, tal_put hown4 hown.isMap h1 h2, hg4⟩
/-- 'm[x]' -/
theorem tal_look (h : Tal P t w B n c) (hk : P.underlying t = some (.int .i64)) (hm : P.underlying m = some (.map t t)) (hz : ∀ u : World, (zeroValue t).run P u = .ok (.int .i64 0) u) {x : Int} (hx : Kw x) :
    (Instr.lookup m (.map (some B)) (.int .i64 x) false).run P w = .ok (.int .i64 (c x : Nat)) w := by
  obtain ⟨D, hown, h1, h2⟩ := h
  obtain ⟨c0, hrun, hat, _⟩ := hown.lookup_int (int_keyed hk) hm hk (hz w) (keyOf_int hk hx)
  obtain rfl : ((c x : Nat) : Int) = c0 := (by rw [h1 x hx] at hat; injection hat with h; injection h)
  exact hrun
theorem ownsMap_shrink {D : DataW Unit} {R : Value → Option (DataW Unit × List MemPlace)} {n' : Nat} (hown : w.ownsMap P t R B n D) (h : Maps.size D ≤ n') : w.ownsMap P t R B n' D := by
  obtain ⟨es, clock, hb, F, hs, rfl⟩ := hown
  refine ⟨es, clock, hb, F, ?_, rfl⟩
  simpa [Maps.size, length_sorted] using h
/-- 'm[x] = v' -/
theorem tal_store (h : Tal P t w B n c) (hk : P.underlying t = some (.int .i64)) (hm : P.underlying m = some (.map t t)) (hn : n < maxLen) {x : Int} (hx : Kw x) (v : Nat) (v' : Int) (hv : v' = (v : Int)) (hle : v ≤ 9000000000000000000) :
    ∃ w4, (Instr.mapUpdate m (.map (some B)) (.int .i64 x) (.int .i64 v')).run P w = .ok () w4 ∧ Tal P t w4 B (n + 1) (updI c x v) ∧ (0 < c x → Tal P t w4 B n (updI c x v)) ∧ w.grownBy w4 (some B) := by
  subst hv
  obtain ⟨D, hown, h1, h2⟩ := h
  obtain ⟨w4, hst, hown4, hg4⟩ := hown.update (int_keyed hk) hm hn (keyOf_int hk hx) (plainElem_int (H := Unit) hk (WalkArith.wf_i64 (n := (v : Int)) (by omega)))
  refine ⟨w4, hst, tal_put hown4 hown.isMap h1 h2, fun h0 => tal_put (ownsMap_shrink hown4 ?_) hown.isMap h1 h2, hg4⟩
  rw [Maps.size_put (hown.tidy (int_keyed hk)), h2 x hx h0]
  exact hown.size_le
/-- its keys -/
theorem ownsMap_keysI {D : DataW Unit} {R : Value → Option (DataW Unit × List MemPlace)} (hown : w.ownsMap P t R B n D) (hk : P.underlying t = some (.int .i64)) : (intKeys D).Nodup ∧ (∀ x ∈ intKeys D, Kw x) ∧ ∀ x, Maps.has D (iK x) = true → x ∈ intKeys D := by
  have hw := intKeys_wf hown hk
  obtain ⟨es, hD, hpw, _⟩ := hown.entries (int_keyed hk)
  obtain ⟨es', hD', hko⟩ := hown.keysOf
  obtain rfl : es = es' := by rw [hD] at hD'; simpa using hD'
  subst hD
  have hint : ∀ p ∈ es, ∃ x, p.1 = .int .i64 x := fun p hp => by obtain ⟨v, hv⟩ := hko p hp; obtain ⟨x, _, hx, _⟩ := Maps.keyOf_i64 hk hv; exact ⟨x, hx⟩
  refine ⟨?_, fun x hx => ?_, fun x hx => ?_⟩
  · show (es.map fun p => Go.intOf p.1).Nodup
    refine List.pairwise_map.2 (hpw.imp_of_mem fun {p q} hp' hq' hne e => hne ?_)
    obtain ⟨a, ha⟩ := hint p hp'
    obtain ⟨b, hb⟩ := hint q hq'
    rw [ha, hb] at e ⊢
    exact congrArg _ e
  · have := hw x hx
    simpa [Kw, Lit.wf, IntKind.min, IntKind.max, IntKind.signed, IntKind.bits] using this
  · rw [has_eq, List.any_eq_true] at hx
    obtain ⟨p, hp, hs⟩ := hx
    obtain ⟨a, ha⟩ := hint p hp
    rw [ha] at hs
    exact List.mem_map.2 ⟨p, hp, by rw [ha]; simpa [Lit.sameKey, iK, Go.intOf, eq_comm] using hs⟩
/-- the look-up at the operation -/
theorem wpList_tal_look {ops : Array Oper} {rest : List Oper} {o : Oper} {a : Act} {Q : Exit → Act → World → Prop} (hg : o.guard = none) (u v : Operand) (hop : o.op = Op.lookup m u v false)
    (hk : P.underlying t = some (.int .i64)) (hm : P.underlying m = some (.map t t)) (hz : ∀ u : World, (zeroValue t).run P u = .ok (.int .i64 0) u) (hu : a.eval u = .map (some B)) (x : Int) (hv : a.eval v = .int .i64 x) (hx : Kw x) (h : Tal P t w B n c)
    (hK : wpList P ops Q rest (a.put o.dst (.int .i64 (c x : Nat))) w) : wpList P ops Q (o :: rest) a w := by
  refine wpList_plain hg fun K' hK' => ?_
  have hrun := tal_look h hk hm hz hx
  unfold Oper.wp
  simp [execOp, hop, hu, hv, hrun, Result.andThen]
  exact hK' _ _ hK
/-- the write at the operation -/
theorem wpList_tal_store {ops : Array Oper} {rest : List Oper} {o : Oper} {a : Act} {Q : Exit → Act → World → Prop} (hg : o.guard = none) (u v y : Operand) (hop : o.op = Op.mapUpdate m u v y)
    (hk : P.underlying t = some (.int .i64)) (hm : P.underlying m = some (.map t t)) (hu : a.eval u = .map (some B)) (x : Int) (hv : a.eval v = .int .i64 x) (hx : Kw x) (z : Nat) (z' : Int) (hy : a.eval y = .int .i64 z') (hz : z' = (z : Int)) (hle : z ≤ 9000000000000000000) (hn : n < maxLen) (h : Tal P t w B n c)
    (hK : ∀ w4, Tal P t w4 B (n + 1) (updI c x z) → (0 < c x → Tal P t w4 B n (updI c x z)) → w.grownBy w4 (some B) → wpList P ops Q rest (a.put o.dst (.tuple #[])) w4) : wpList P ops Q (o :: rest) a w := by
  refine wpList_plain hg fun K' hK' => ?_
  obtain ⟨w4, hrun, h1, h1', h2⟩ := tal_store h hk hm hn hx z z' hz hle
  unfold Oper.wp
  simp [execOp, hop, hu, hv, hy, hrun, Result.andThen]
  exact hK' _ _ (hK w4 h1 h1' h2)
end
end Go.Proofs.Ythjdjkcdlknhbaa
/- Layer bag: tally: how often each number is in all of the bags. -/
namespace Go.Proofs.Ythjdjkcdlknhbaa
open Go.RowKit Go.Maps

theorem zeroI (u : World) : (zeroValue 3).run Try.prog u = .ok (.int .i64 0) u := by kernel_rfl
/-- the map in block B counts the list L -/
def TalL (w : World) (B : Nat) (L : List Int) : Prop := Tal Try.prog 3 w B L.length (fun o => L.count o)
theorem TalL.below {w w' : World} {B : Nat} {L : List Int} (h : TalL w B L) (hb : Below w.heap.size w w') : TalL w' B L := Tal.below h hb
theorem talL_snoc {w : World} {B : Nat} {L : List Int} {x : Int} (h : Tal Try.prog 3 w B (L.length + 1) (updI (fun o => L.count o) x (L.count x + 1))) : TalL w B (L ++ [x]) := by
  unfold TalL
  rw [List.length_append]
  refine Tal.same h fun o => ?_
  unfold updI
  rw [List.count_append, List.count_singleton]
  by_cases e : o = x
  · subst e; simp
  · have : (x == o) = false := by simp; omega
    rw [if_neg e]; simp [this]

set_option maxHeartbeats 1000000 in
theorem tally_any (v : Value) (ls : List (List Int)) (w : World) (hl : Grid w v ls) (hk : AllK ls.flatten) (hbig : ls.flatten.length ≤ 40000000000000) :
    Calls Try.prog 44 #[v] w fun e w' => ∃ B, e = .returned (.map (some B)) ∧ TalL w' B ls.flatten ∧ w.heap.size ≤ B ∧ Below w.heap.size w w' := by
  have hmm := @run_makeMap Try.prog
  obtain ⟨A, c, rfl, h1, h2⟩ := hl.form
  unfold maxLen at h2
  have HL := hide hl
  have HK := hide hk
  have hB0 : Below w.heap.size w (w.alloc (.map #[] 0)) := (Below.refl _ _).alloc (Nat.le_refl _) _
  have hT0 := hide (show TalL (w.alloc (.map #[] 0)) w.heap.size [] from tal_new w)
  clear hl hk
  go_enter Try.func44, Try.ntmps44
  go_wp2
  go_loopw [11] (fun i wr => ∃ k : Nat, k ≤ ls.length ∧ i = .int .i64 k ∧ Below w.heap.size w wr ∧ Hid (TalL wr w.heap.size (ls.take k).flatten)) (fun i _ => ls.length - (Go.RowKit.intOf i).toNat)
  case atStart => exact ⟨0, Nat.zero_le _, rfl, hB0, hT0⟩
  case round =>
    obtain ⟨k, hkl, rfl, hb, HT⟩ := hrel
    by_cases hlt : k < ls.length
    · obtain ⟨b, off, u, rfl, hbl, hc, hu⟩ := grid_at HL.out hlt
      have hfl : (ls.take (k + 1)).flatten = (ls.take k).flatten ++ ls[k] := by rw [List.take_succ_eq_append_getElem hlt, List.flatten_append]; simp
      have hsub : ∀ x ∈ ls[k], Kw x := fun x hx => HK.out x (List.mem_flatten.2 ⟨_, List.getElem_mem hlt, hx⟩)
      have hlen : (ls.take (k + 1)).flatten.length ≤ 40000000000000 := by
        have h3 : ls.flatten = (ls.take (k + 1)).flatten ++ (ls.drop (k + 1)).flatten := by rw [← List.flatten_append, List.take_append_drop]
        rw [h3, List.length_append] at hbig; omega
      rw [hfl, List.length_append] at hlen
      generalize ls[k] = l at *
      generalize (ls.take k).flatten = L at *
      have HF := hide hfl
      have HS := hide hsub
      have HU := hide hu
      have hc := (hb.cell (p := ⟨b, off + k, none⟩) hbl).trans hc
      obtain ⟨A', c', rfl, h1', h2', -⟩ := hu
      unfold maxLen at h2'
      clear hfl hsub
      have hwB := hb.size
      go_wp2
      go_loopw [17] (fun i ws => ∃ j : Nat, j ≤ l.length ∧ i = .int .i64 j ∧ Below w.heap.size w ws ∧ Hid (TalL ws w.heap.size (L ++ l.take j))) (fun i _ => l.length - (Go.RowKit.intOf i).toNat)
      case atStart => exact ⟨0, Nat.zero_le _, rfl, hb, by simpa using HT⟩
      case round =>
        obtain ⟨j, hj, rfl, hbs, HTs⟩ := hrel
        by_cases hjl : j < l.length
        · obtain ⟨b2, o2, rfl, -, c2⟩ := ints_at (HU.out.below hbs) hjl
          have hx := HS.out _ (List.getElem_mem hjl)
          have hsn : L ++ l.take (j + 1) = (L ++ l.take j) ++ [l[j]] := by rw [List.take_succ_eq_append_getElem hjl, List.append_assoc]
          have HN := hide hsn
          have hcl : (L ++ l.take j).count l[j] ≤ (L ++ l.take j).length := List.count_le_length
          have hll : (L ++ l.take j).length = L.length + j := by rw [List.length_append, List.length_take]; omega
          clear hsn
          generalize l[j] = x at *
          generalize L ++ l.take j = M at *
          go_wp2_with (first
            | (at_lookup; refine wpList_tal_look (t := 3) rfl _ _ rfl Try.underlying3 Try.underlying79 zeroI rfl x rfl hx HTs.out ?_)
            | (at_mapUpdate; refine wpList_tal_store (t := 3) rfl _ _ _ rfl Try.underlying3 Try.underlying79 rfl x rfl hx (M.count x + 1) _ rfl (by omega) (by omega) (by unfold maxLen; omega) HTs.out ?_; intro w4 hT4 hT4' hg4))
          go_roundw
          case rel => exact ⟨j + 1, by omega, by go_num, hbs.grown hg4 (by have := hbs.size; omega) (fun g hg => by injection hg with hg; omega), by rw [HN.out]; exact hide (talL_snoc hT4)⟩
          case measure => simp [Go.RowKit.intOf]; omega
        · have hjj : j = l.length := by omega
          subst hjj
          rw [List.take_of_length_le (Nat.le_refl _), ← HF.out] at HTs
          go_wp2
          go_roundw
          case rel => exact ⟨k + 1, by omega, by go_num, hbs, HTs⟩
          case measure => simp [Go.RowKit.intOf]; omega
    · have hkk : k = ls.length := by omega
      subst hkk
      rw [List.take_of_length_le (Nat.le_refl _)] at HT
      go_wp2
      go_ret
      exact ⟨_, rfl, HT.out, Nat.le_refl _, hb⟩
end Go.Proofs.Ythjdjkcdlknhbaa
/- Layer bag: normed: the counted numbers, rising, each as often as it is counted. -/
namespace Go.Proofs.Ythjdjkcdlknhbaa
open Go.RowKit Go.Maps Go.Sort Go.Shelf Go.Proofs

theorem infoI : (Try.prog.info? 3).map (fun i => (i.zero, i.size, i.bytes)) = some (some (.int .i64 0), 1, 8) := by kernel_rfl
theorem sortsA (m : Nat) : AnyZI.SortsIn Try.prog Try.sortedA_ren Fence.wide m :=
  ⟨fun blk off cap ss W hH hblk hsz => callsIn_wide.2 (AnyM.slices_Sort_int Try.sortA blk off cap ss W hH hblk hsz),
   fun p cap W => callsIn_wide.2 (AnyM.slices_Sort_int_none Try.sortA p cap W)⟩
theorem Keys_any (mb : Option Nat) (W : World) : Calls Try.prog 66 #[.map mb] W fun e w' => e = .returned (.func (.func 74) #[] #[.pointer (some ⟨W.heap.size, 0, none⟩)]) ∧ w' = W.alloc (.cells #[.map mb] 79) :=
  (callsIn_wide (n := 5)).1 (AnyZI.keys_in Try.keysA Fence.wide 5 trivial rfl mb W)
set_option maxHeartbeats 1000000 in
theorem Sorted_raw (b nn : Nat) (D0 : DataW Unit) (R : Value → Option (DataW Unit × List MemPlace)) (w : World) (hown : w.ownsMap Try.prog 3 R b nn D0) (hmax : Maps.size D0 ≤ maxLen) (hbytes : Maps.size D0 * 8 ≤ 140737488355328) :
    Calls Try.prog 65 #[.func (.func 74) #[] #[.pointer (some ⟨w.heap.size, 0, none⟩)]] (w.alloc (.cells #[.map (some b)] 79)) fun e w' => ∃ (v : Value) (ss : List Int), e = .returned v ∧ ss.Perm (intKeys D0) ∧
      w'.ownsRow (w.alloc (.cells #[.map (some b)] 79)).heap.size 3 1 v ss.length ((ss.mergeSort (fun x y => decide (x ≤ y))).map encZ) ∧ (v = .slice none 0 0 ↔ ss = []) ∧ Below (w.alloc (.cells #[.map (some b)] 79)).heap.size (w.alloc (.cells #[.map (some b)] 79)) w' := by
  refine (callsIn_wide (n := 5)).1 ?_
  have hbl := hown.lt
  have hseq : SeqGives Fence.wide 2 Try.prog 74 #[.pointer (some ⟨w.heap.size, 0, none⟩)] encZ (fun ss => ss.Perm (intKeys D0)) (Maps.size D0) (w.alloc (.cells #[.map (some b)] 79)) :=
    AnyZI.keys_gives (ρ := Try.keysA_ren) { Try.keysA with } Fence.wide _ trivial rfl (by omega) w.heap.size b nn D0 _ (by simp) (by simp) (by
      obtain ⟨es, clock, hb, Ft, hs, hD⟩ := hown
      exact ⟨es, clock, (Below.heap_alloc _ _ b hbl).trans hb, Ft, hs, hD⟩)
  exact AnyZI.sorted_in Try.sortedA Fence.wide 5 trivial trivial trivial trivial rfl (by omega) (sortsA _) (enters_of Try.func73 (by kernel_rfl) rfl) 74 #[.pointer (some ⟨w.heap.size, 0, none⟩)] trivial (enters_of Try.func74 (by kernel_rfl) rfl) _ _ hmax hbytes _ hseq
/-- the keys of a map of counts, sorted -/
theorem Sorted_any (B n : Nat) (c : Int → Nat) (w : World) (h : Tal Try.prog 3 w B n c) (hn : n ≤ 17592186044416) :
    Calls Try.prog 65 #[.func (.func 74) #[] #[.pointer (some ⟨w.heap.size, 0, none⟩)]] (w.alloc (.cells #[.map (some B)] 79)) fun e w' => ∃ (v : Value) (ks : List Int), e = .returned v ∧
      w'.ownsRow w.heap.size 3 1 v ks.length (ks.flatMap ic) ∧ Rises ks ∧ ks.Nodup ∧ AllK ks ∧ (∀ o, Kw o → 0 < c o → o ∈ ks) ∧ Below w.heap.size w w' := by
  obtain ⟨D, hown, -, h2⟩ := h
  have hsz := hown.size_le
  obtain ⟨k1, k2, k3⟩ := ownsMap_keysI hown Try.underlying3
  refine (Sorted_raw B n D _ w hown (by unfold maxLen; omega) (by omega)).mono ?_
  rintro e w' ⟨v, ss, rfl, hp, ho, -, hb⟩
  refine ⟨v, ss.mergeSort (fun x y => decide (x ≤ y)), rfl, ?_, sort_rises ss, sort_nodup (hp.nodup_iff.2 k1), fun x hx => k2 x (hp.mem_iff.1 (sort_mem.1 hx)), fun o ho h0 => sort_mem.2 (hp.mem_iff.2 (k3 o (h2 o ho h0))), bcall1 (Below.refl _ _) hb⟩
  rw [List.length_mergeSort, ← ic_map]
  exact own_base ho (by simp)

set_option maxHeartbeats 2000000 in
theorem normed_any (B n : Nat) (c : Int → Nat) (b : List Int) (w : World) (h : Tal Try.prog 3 w B n c) (hn : n ≤ 17592186044416) (hc : ∀ o, c o = b.count o) (hk : AllK b) (hb : b.length ≤ 17592186044416) :
    Calls Try.prog 43 #[.map (some B)] w fun e w' => ∃ v, e = .returned v ∧ w'.ownsRow w.heap.size 3 1 v (normB b).length ((normB b).flatMap ic) ∧ Below w.heap.size w w' := by
  obtain ⟨i0, hi, hz0, hz1, hz2⟩ := info_parts infoI
  have hS := hide (Sorted_any B n c w h hn)
  have HT := hide h
  have HC := hide hc
  have HKb := hide hk
  clear h hc hk
  go_enter Try.func43, Try.ntmps43
  go_wp2_with fail
  refine (Keys_any _ _).mono ?_
  rintro e w1 ⟨rfl, rfl⟩
  go_wp2_with fail
  refine hS.out.mono ?_
  rintro e w2 ⟨v2, ks, rfl, ho, hr, hnd, hkk, hm, hb2⟩
  have hsp : spread c ks = normB b := spread_norm hr hnd HC.out fun o ho => hm o (HKb.out o ho) (by rw [HC.out]; exact List.count_pos_iff.2 ho)
  have hle : (spread c ks).length ≤ 17592186044416 := by rw [hsp, norm_len]; exact hb
  have HR := hide (Sl.of_own ic_len ho)
  obtain ⟨A, cp, rfl, hcp, hcm⟩ := own_form ho
  unfold maxLen at hcm
  have HT2 := hide (HT.out.below hb2)
  have HSP := hide hsp
  have HKK := hide hkk
  have hs2 := hb2.size
  clear hsp hkk hm hr hnd ho hS HT
  go_wp2
  go_loopw [3, 10] (fun v i wr => ∃ k : Nat, k ≤ ks.length ∧ i = .int .i64 k ∧ wr.ownsRow w2.heap.size 3 1 v (spread c (ks.take k)).length ((spread c (ks.take k)).flatMap ic) ∧ Below w2.heap.size w2 wr) (fun _ i _ => ks.length - (Go.RowKit.intOf i).toNat)
  case atStart => exact ⟨0, Nat.zero_le _, rfl, World.ownsRow_nil _ _ _ _, Below.refl _ _⟩
  case round =>
    obtain ⟨k, hkl, rfl, hown, hbw⟩ := hrel
    by_cases hlt : k < ks.length
    · obtain ⟨b1, o1, rfl, -, c1⟩ := ints_at (HR.out.below hbw) hlt
      have hx := HKK.out _ (List.getElem_mem hlt)
      have hst := spread_take c ks k hlt
      have hsl := spread_le c ks (k + 1)
      rw [hst, List.length_append, List.length_replicate] at hsl
      have HST := hide hst
      clear hst
      generalize ks[k] = x at *
      generalize spread c (ks.take k) = L at *
      obtain ⟨m, hm⟩ : ∃ m, c x = m := ⟨_, rfl⟩
      have HM := hide hm
      rw [hm] at hsl HST
      clear hm
      obtain ⟨A3, c3, rfl, hA3, hA4⟩ := own_form hown
      go_wp2_with (at_lookup; refine wpList_tal_look (t := 3) rfl _ _ rfl Try.underlying3 Try.underlying79 zeroI rfl x rfl hx (HT2.out.below hbw) ?_; rw [HM.out])
      go_loopw [3, 17] (fun v i ws => ∃ j : Nat, j ≤ m ∧ i = .int .i64 j ∧ ws.ownsRow w2.heap.size 3 1 v (L.length + j) ((L ++ List.replicate j x).flatMap ic) ∧ Below w2.heap.size w2 ws) (fun _ i _ => m - (Go.RowKit.intOf i).toNat)
      case atStart => exact ⟨0, Nat.zero_le _, rfl, by simpa using hown, hbw⟩
      case round =>
        obtain ⟨j, hj, rfl, hown2, hbs⟩ := hrel
        obtain ⟨A4, c4, rfl, hA5, hA6⟩ := own_form hown2
        have hsz := hbs.size
        by_cases hjl : j < m
        · go_wp2_with (at_builtin; refine wpList_append_own _ rfl _ _ 34 rfl w2.heap.size 3 i0 (.int .i64 0) 1 8 Try.underlying34 hi hz0 hz1 hz2 rfl (by decide) _ _ _ rfl (hown2.alloc _) ⟨_, 0, none⟩ 1 1 [.int .i64 x] rfl rfl (row_at _ _ _ (by simp)) (by simp [Value.oneCell']) (by simp only [maxLen]; omega) (by omega) (by simp; omega) ?_; intro v' w3 hown' hgrow _)
          go_roundw
          case rel => exact ⟨j + 1, by omega, by go_num, by rw [List.replicate_succ', ← List.append_assoc, List.flatMap_append, ← Nat.add_assoc]; exact hown', (hbs.alloc (by omega) _).grown hgrow (by simp; omega) (own_ge hown2)⟩
          case measure => simp [Go.RowKit.intOf]; omega
        · have hjm : j = m := by omega
          subst hjm
          have hlen : (spread c (ks.take (k + 1))).length = L.length + j := by rw [HST.out, List.length_append, List.length_replicate]
          go_wp2
          go_roundw
          case rel => exact ⟨k + 1, by omega, by go_num, by rw [hlen, HST.out]; exact hown2, hbs⟩
          case measure => simp [Go.RowKit.intOf]; omega
    · have hkk : k = ks.length := by omega
      subst hkk
      rw [List.take_of_length_le (Nat.le_refl _), HSP.out] at hown
      go_wp2
      go_ret
      exact ⟨_, rfl, own_base hown (by omega), hb2.trans (hbw.mono (by omega))⟩
end Go.Proofs.Ythjdjkcdlknhbaa
/- A region that draws its order, whose operations read, and whose callees read and lay blocks: walked once, in the class of worlds that are as this one below its heap's end. -/
namespace Go.Proofs.Ythjdjkcdlknhbaa
open Go.RowKit

/-- a world that is as W below W's heap's end -/
structure BW (W : World) where
  w : World
  b : Below W.heap.size W w
instance inhabBW (W : World) : Inhabited (BW W) := ⟨⟨W, Below.refl _ _⟩⟩
theorem wp_region_below {P : Program} {id : Nat} {Q : Exit → Act → World → Prop} {a : Act} {W : World} {l : List Oper} (hm : P.follows .mixedOrders = true) (hB : Region.lexB .any l.toArray = true)
    (h : wpQuiet P l.toArray (fun w' => ∃ p : BW W, w' = p.w) (fun a' => ∀ w', (∃ p : BW W, w' = p.w) → Q .normal a' w') l a) : (Code.region id l.toArray true).wp P Q a W :=
  wp_region_quiet (C := fun w' => ∃ p : BW W, w' = p.w) hm hB ⟨⟨W.drew, (Below.refl _ _).drew⟩, rfl⟩ (by simpa using h)
theorem below_of {P : Program} {f : FuncId} {args : Array Value} {W : World} {p : BW W} {v : Value} (h : Calls P f args p.w fun e w' => e = .returned v ∧ Below p.w.heap.size p.w w') :
    Calls P f args p.w fun e w'' => e = .returned v ∧ ∃ q : BW W, w'' = q.w :=
  h.mono fun _ w'' ⟨he, hb⟩ => ⟨he, ⟨⟨w'', bcall p.b hb⟩, rfl⟩⟩
theorem same_of {P : Program} {f : FuncId} {args : Array Value} {W : World} {p : BW W} {v : Value} (h : Calls P f args p.w fun e w' => e = .returned v ∧ w' = p.w) :
    Calls P f args p.w fun e w'' => e = .returned v ∧ ∃ q : BW W, w'' = q.w :=
  h.mono fun _ _ ⟨he, hw⟩ => ⟨he, ⟨p, hw⟩⟩
end Go.Proofs.Ythjdjkcdlknhbaa
