/- Layer set: plain facts on sets as numbers (bits), their lists, their texts. No program in this text. -/
import Derived.Lib.TrailingZeros
import Derived.Lib.ItoaNum
import Derived.Lib.AtoiAllCases
import Derived.Lib.SplitLaws
namespace Go.Proofs.YtffdgkofolomlaaDoor

def onlyF (o : Int) : Nat := if 1 ≤ o ∧ o ≤ 64 then 2 ^ (o - 1).toNat else 0
def addF (s : Nat) (o : Int) : Nat := s ||| onlyF o
def delF (s : Nat) (o : Int) : Nat := s &&& (18446744073709551615 - onlyF o)
def hasF (s : Nat) (o : Int) : Bool := decide (1 ≤ o) && (decide (o ≤ 64) && s.testBit (o - 1).toNat)
/-- the objects of a set, rising -/
def objs (s : Nat) : List Int := ((List.range 64).filter fun i => s.testBit i).map fun (i : Nat) => (i : Int) + 1
def cntF (s : Nat) : Nat := (objs s).length
def ofF (l : List Int) : Nat := l.foldl addF 0
def underF (a b : Nat) : Bool := decide (a &&& (18446744073709551615 - b) = 0)
def firstF (n : Int) : Nat := 2 ^ (min (max n 0) 64).toNat - 1

theorem p64 : (2 : Nat) ^ 64 = 18446744073709551616 := by decide
theorem onlyF_lt (o : Int) : onlyF o < 18446744073709551616 := by
  unfold onlyF
  split
  · rw [← p64]; exact Nat.pow_lt_pow_right (by decide) (by omega)
  · decide
theorem testBit_only (o : Int) (i : Nat) : (onlyF o).testBit i = decide ((i : Int) + 1 = o ∧ i < 64) := by
  unfold onlyF
  split
  · rw [Nat.testBit_two_pow]
    congr 1
    apply propext
    constructor
    · intro h; omega
    · intro h; omega
  · rw [Nat.zero_testBit]
    symm
    rw [decide_eq_false_iff_not]
    omega
theorem testBit_not (x i : Nat) (hx : x < 18446744073709551616) : (18446744073709551615 - x).testBit i = (decide (i < 64) && !x.testBit i) := by
  have := Nat.testBit_two_pow_sub_succ (x := x) (n := 64) (by rw [p64]; exact hx) i
  rw [p64] at this
  rw [← this]
  congr 1
  omega
theorem testBit_add (s : Nat) (o : Int) (i : Nat) : (addF s o).testBit i = (s.testBit i || decide ((i : Int) + 1 = o ∧ i < 64)) := by
  rw [addF, Nat.testBit_or, testBit_only]
theorem testBit_high {s i : Nat} (hs : s < 18446744073709551616) (h : s.testBit i = true) : i < 64 := by
  apply Nat.lt_of_not_le
  intro hle
  rw [Nat.testBit_lt_two_pow (Nat.lt_of_lt_of_le (by rw [← p64] at hs; exact hs) (Nat.pow_le_pow_right (by decide) hle))] at h
  cases h
theorem testBit_del {s : Nat} (hs : s < 18446744073709551616) (o : Int) (i : Nat) : (delF s o).testBit i = (s.testBit i && !decide ((i : Int) + 1 = o)) := by
  rw [delF, Nat.testBit_and, testBit_not _ _ (onlyF_lt o), testBit_only]
  cases h : s.testBit i with
  | false => rfl
  | true =>
    have := testBit_high hs h
    simp [this]
theorem add_lt {s : Nat} (hs : s < 18446744073709551616) (o : Int) : addF s o < 18446744073709551616 := by
  have := onlyF_lt o
  rw [← p64] at *
  exact Nat.or_lt_two_pow hs this
theorem del_lt {s : Nat} (hs : s < 18446744073709551616) (o : Int) : delF s o < 18446744073709551616 :=
  Nat.lt_of_le_of_lt Nat.and_le_left hs
theorem has_bit (s : Nat) (i : Nat) (hi : i < 64) : hasF s ((i : Int) + 1) = s.testBit i := by
  unfold hasF
  rw [decide_eq_true (by omega : 1 ≤ (i : Int) + 1), decide_eq_true (by omega : (i : Int) + 1 ≤ 64), show ((i : Int) + 1 - 1).toNat = i by omega]
  simp
theorem has_no (s : Nat) (o : Int) (h : ¬ (1 ≤ o ∧ o ≤ 64)) : hasF s o = false := by
  unfold hasF
  by_cases h1 : 1 ≤ o
  · rw [decide_eq_false (by omega : ¬ o ≤ 64)]; simp
  · rw [decide_eq_false h1]; simp
theorem has_eq (s : Nat) (o : Int) : hasF s o = decide (s &&& onlyF o ≠ 0) := by
  by_cases h : 1 ≤ o ∧ o ≤ 64
  · obtain ⟨i, rfl⟩ : ∃ i : Nat, o = (i : Int) + 1 := ⟨(o - 1).toNat, by omega⟩
    rw [has_bit _ _ (by omega)]
    cases hb : s.testBit i with
    | true =>
      symm; rw [decide_eq_true_eq]
      intro h0
      have : (s &&& onlyF ((i : Int) + 1)).testBit i = true := by rw [Nat.testBit_and, testBit_only, hb]; simp; omega
      rw [h0, Nat.zero_testBit] at this; cases this
    | false =>
      symm; rw [decide_eq_false_iff_not, Decidable.not_not]
      apply Nat.eq_of_testBit_eq
      intro j
      rw [Nat.testBit_and, testBit_only, Nat.zero_testBit]
      by_cases hj : j = i
      · subst hj; rw [hb]; rfl
      · rw [decide_eq_false (by omega)]; simp
  · rw [has_no _ _ h]
    unfold onlyF
    rw [if_neg h]; simp
/-- two sets are one, if they have the same objects -/
theorem set_ext {a b : Nat} (ha : a < 18446744073709551616) (hb : b < 18446744073709551616) (h : ∀ i, i < 64 → a.testBit i = b.testBit i) : a = b := by
  apply Nat.eq_of_testBit_eq
  intro i
  by_cases hi : i < 64
  · exact h i hi
  · have e : ∀ x, x < 18446744073709551616 → x.testBit i = false := fun x hx => by
      cases hb : x.testBit i with
      | false => rfl
      | true => exact absurd (testBit_high hx hb) hi
    rw [e a ha, e b hb]

theorem mem_objs {s : Nat} {o : Int} : o ∈ objs s ↔ hasF s o = true := by
  unfold objs
  rw [List.mem_map]
  constructor
  · rintro ⟨i, hi, rfl⟩
    rw [List.mem_filter, List.mem_range] at hi
    rw [has_bit _ _ hi.1]; exact hi.2
  · intro h
    by_cases ho : 1 ≤ o ∧ o ≤ 64
    · obtain ⟨i, rfl⟩ : ∃ i : Nat, o = (i : Int) + 1 := ⟨(o - 1).toNat, by omega⟩
      rw [has_bit _ _ (by omega)] at h
      exact ⟨i, List.mem_filter.2 ⟨List.mem_range.2 (by omega), h⟩, rfl⟩
    · rw [has_no _ _ ho] at h; cases h
theorem objs_rng {s : Nat} {o : Int} (h : o ∈ objs s) : 1 ≤ o ∧ o ≤ 64 := by
  apply Decidable.byContradiction
  intro ho
  rw [mem_objs, has_no _ _ ho] at h; cases h
theorem objs_zero : objs 0 = [] := by
  unfold objs
  rw [List.filter_eq_nil_iff.2 (fun i _ => by rw [Nat.zero_testBit]; decide)]; rfl
theorem objs_rise (s : Nat) : (objs s).Pairwise (· < ·) := by
  unfold objs
  rw [List.pairwise_map]
  exact (List.Pairwise.filter _ List.pairwise_lt_range).imp fun h => by omega
theorem objs_len (s : Nat) : (objs s).length ≤ 64 := by
  unfold objs
  rw [List.length_map]
  have := List.length_filter_le (fun i => s.testBit i) (List.range 64)
  rwa [List.length_range] at this

/-- the lowest object comes first; what is left lists the rest -/
theorem low_step {s : Nat} (h0 : s ≠ 0) (hs : s < 18446744073709551616) :
    Go.Lib.ctz 64 s < 64 ∧ s.testBit (Go.Lib.ctz 64 s) = true ∧ (∀ i, i < Go.Lib.ctz 64 s → s.testBit i = false) ∧ ∀ i, (s &&& (s - 1)).testBit i = (s.testBit i && decide (i ≠ Go.Lib.ctz 64 s)) := by
  obtain ⟨m, hm, hk⟩ := Go.Lib.ctzFrom_spec 64 s (by omega) (by rw [p64]; exact hs)
  have e : Go.Lib.ctz 64 s = Go.Lib.ctzFrom 64 s := by unfold Go.Lib.ctz; rw [if_neg h0]
  rw [e]
  generalize Go.Lib.ctzFrom 64 s = k at *
  have hb : ∀ i, s.testBit i = (decide (k ≤ i) && (2 * m + 1).testBit (i - k)) := fun i => by
    rw [hm, Nat.mul_comm, Nat.testBit_mul_two_pow]
  have h1 : s - 1 = 2 ^ k * (2 * m) + (2 ^ k - 1) := by
    have : 0 < 2 ^ k := Nat.two_pow_pos k
    rw [hm, Nat.mul_add, Nat.mul_one]; omega
  have hb1 : ∀ i, (s - 1).testBit i = if i < k then true else (2 * m).testBit (i - k) := fun i => by
    have hlt : 2 ^ k - 1 < 2 ^ k := by have : 0 < 2 ^ k := Nat.two_pow_pos k; omega
    rw [h1, Nat.testBit_two_pow_mul_add _ hlt]
    split
    · rw [Nat.testBit_two_pow_sub_one]; simp [*]
    · rfl
  refine ⟨hk, ?_, ?_, ?_⟩
  · rw [hb]; simp
  · intro i hi; rw [hb, decide_eq_false (by omega)]; rfl
  · intro i
    rw [Nat.testBit_and, hb1, hb]
    by_cases hi : i < k
    · rw [decide_eq_false (by omega : ¬ k ≤ i)]; rfl
    · rw [if_neg hi, decide_eq_true (by omega : k ≤ i)]
      by_cases hik : i = k
      · subst hik; simp
      · obtain ⟨j, rfl⟩ : ∃ j, i = k + (j + 1) := ⟨i - k - 1, by omega⟩
        rw [decide_eq_true hik, show k + (j + 1) - k = j + 1 by omega, Nat.testBit_succ, Nat.testBit_succ, show (2 * m + 1) / 2 = m by omega, show 2 * m / 2 = m by omega]
        cases m.testBit j <;> rfl
theorem filter_split (p : Nat → Bool) (k n : Nat) (hk : k < n) (hp : p k = true) (hlow : ∀ i, i < k → p i = false) :
    (List.range n).filter p = k :: (List.range n).filter fun i => p i && decide (i ≠ k) := by
  obtain ⟨d, rfl⟩ : ∃ d, n = (k + 1) + d := ⟨n - (k + 1), by omega⟩
  rw [List.range_add, List.filter_append, List.filter_append, List.range_succ, List.filter_append, List.filter_append]
  have a1 : (List.range k).filter p = [] := List.filter_eq_nil_iff.2 fun i hi => by rw [hlow i (List.mem_range.1 hi)]; decide
  have a2 : ((List.range k).filter fun i => p i && decide (i ≠ k)) = [] := List.filter_eq_nil_iff.2 fun i hi => by rw [hlow i (List.mem_range.1 hi)]; simp
  rw [a1, a2]
  have a3 : ([k].filter p) = [k] := by simp [hp]
  have a4 : ([k].filter fun i => p i && decide (i ≠ k)) = [] := by simp
  rw [a3, a4]
  simp only [List.nil_append, List.singleton_append, List.cons.injEq, true_and]
  apply List.filter_congr
  intro i hi
  obtain ⟨j, _, rfl⟩ := List.mem_map.1 hi
  rw [decide_eq_true (by omega), Bool.and_true]
theorem objs_step {s : Nat} (h0 : s ≠ 0) (hs : s < 18446744073709551616) : objs s = (((Go.Lib.ctz 64 s : Nat) : Int) + 1) :: objs (s &&& (s - 1)) := by
  obtain ⟨h1, h2, h3, h4⟩ := low_step h0 hs
  unfold objs
  rw [filter_split _ _ 64 h1 h2 h3, List.map_cons]
  congr 2
  apply List.filter_congr
  intro i _
  rw [h4]

/-- what is made of a list -/
theorem foldl_bit (l : List Int) : ∀ (s : Nat) (i : Nat), i < 64 → (l.foldl addF s).testBit i = (s.testBit i || decide ((i : Int) + 1 ∈ l)) := by
  induction l with
  | nil => intro s i _; simp
  | cons o l ih =>
    intro s i hi
    rw [List.foldl_cons, ih _ _ hi, testBit_add, Bool.or_assoc]
    congr 1
    rw [Bool.eq_iff_iff]
    simp only [Bool.or_eq_true, decide_eq_true_eq, List.mem_cons]
    constructor
    · rintro (⟨h, _⟩ | h)
      · exact .inl h
      · exact .inr h
    · rintro (h | h)
      · exact .inl ⟨h, hi⟩
      · exact .inr h
theorem ofF_bit (l : List Int) (i : Nat) (hi : i < 64) : (ofF l).testBit i = decide ((i : Int) + 1 ∈ l) := by
  rw [ofF, foldl_bit l 0 i hi, Nat.zero_testBit]; rfl
theorem foldl_lt (l : List Int) : ∀ s : Nat, s < 18446744073709551616 → l.foldl addF s < 18446744073709551616 := by
  induction l with
  | nil => intro s h; exact h
  | cons o l ih => intro s h; exact ih _ (add_lt h o)
theorem ofF_lt (l : List Int) : ofF l < 18446744073709551616 := foldl_lt l 0 (by decide)
theorem of_objs {s : Nat} (hs : s < 18446744073709551616) : ofF (objs s) = s :=
  set_ext (ofF_lt _) hs fun i hi => by
    rw [ofF_bit _ _ hi, ← has_bit s i hi, Bool.eq_iff_iff, decide_eq_true_eq, mem_objs]
theorem has_of (l : List Int) (o : Int) : hasF (ofF l) o = (decide (1 ≤ o ∧ o ≤ 64) && decide (o ∈ l)) := by
  by_cases h : 1 ≤ o ∧ o ≤ 64
  · obtain ⟨i, rfl⟩ : ∃ i : Nat, o = (i : Int) + 1 := ⟨(o - 1).toNat, by omega⟩
    rw [has_bit _ _ (by omega), ofF_bit _ _ (by omega), decide_eq_true h, Bool.true_and]
  · rw [has_no _ _ h, decide_eq_false h]; rfl
theorem under_iff {a b : Nat} (ha : a < 18446744073709551616) (hb : b < 18446744073709551616) : underF a b = true ↔ ∀ i, i < 64 → a.testBit i = true → b.testBit i = true := by
  unfold underF
  rw [decide_eq_true_eq]
  constructor
  · intro h i hi hai
    have : (a &&& (18446744073709551615 - b)).testBit i = false := by rw [h, Nat.zero_testBit]
    rw [Nat.testBit_and, testBit_not _ _ hb, hai, decide_eq_true hi] at this
    simpa using this
  · intro h
    apply Nat.eq_of_testBit_eq
    intro i
    rw [Nat.testBit_and, testBit_not _ _ hb, Nat.zero_testBit]
    cases hai : a.testBit i with
    | false => rfl
    | true =>
      have hi := testBit_high ha hai
      rw [h i hi hai]; simp
theorem under_eq {a b : Nat} (ha : a < 18446744073709551616) (hb : b < 18446744073709551616) : underF a b = decide (a &&& b = a) := by
  rw [Bool.eq_iff_iff, under_iff ha hb, decide_eq_true_eq]
  constructor
  · intro h
    apply Nat.eq_of_testBit_eq
    intro i
    rw [Nat.testBit_and]
    cases hai : a.testBit i with
    | false => rfl
    | true => rw [h i (testBit_high ha hai) hai]; rfl
  · intro h i _ hai
    rw [← h, Nat.testBit_and] at hai
    simp at hai; exact hai.2
theorem first_lt (n : Int) : firstF n < 18446744073709551616 := by
  unfold firstF
  have := Nat.pow_le_pow_right (n := 2) (by decide) (show (min (max n 0) 64).toNat ≤ 64 by omega)
  rw [p64] at this
  omega
theorem first_bit (n : Int) (i : Nat) : (firstF n).testBit i = decide ((i : Int) < n ∧ i < 64) := by
  unfold firstF
  rw [Nat.testBit_two_pow_sub_one]
  congr 1
  apply propext
  omega
theorem has_first (n o : Int) : hasF (firstF n) o = decide (1 ≤ o ∧ o ≤ 64 ∧ o ≤ n) := by
  by_cases h : 1 ≤ o ∧ o ≤ 64
  · obtain ⟨i, rfl⟩ : ∃ i : Nat, o = (i : Int) + 1 := ⟨(o - 1).toNat, by omega⟩
    rw [has_bit _ _ (by omega), first_bit]
    congr 1
    apply propext
    omega
  · rw [has_no _ _ h]
    symm; rw [decide_eq_false_iff_not]; omega
end Go.Proofs.YtffdgkofolomlaaDoor
