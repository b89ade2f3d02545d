import Derived.Lib.TrailingZeros
import Derived.Lib.ItoaNum
import Derived.Lib.AtoiAllCases
import Derived.Lib.SplitLaws
import Derived.Lib.AtoiAll
import Derived.OrdersHeld
import Derived.Deep.RegionHeld
import Derived.WalkKit
import Derived.ProofKit
/- Layer set: plain facts on sets as numbers (bits), their lists, their texts. No program in this text. -/
namespace Go.Proofs.YtdmbcjckgfjcaaaGreatDoor
def onlyF (o : Int) : Nat := if 1 ≤ o ∧ o ≤ 64 then 2 ^ (o - 1).toNat else 0
def addF (s : Nat) (o : Int) : Nat := s ||| onlyF o
def hasF (s : Nat) (o : Int) : Bool := decide (1 ≤ o) && (decide (o ≤ 64) && s.testBit (o - 1).toNat)
/-- the objects of a set, rising -/
def objs (s : Nat) : List Int := ((List.range 64).filter fun i => s.testBit i).map fun (i : Nat) => (i : Int) + 1
def cntF (s : Nat) : Nat := (objs s).length
def ofF (l : List Int) : Nat := l.foldl addF 0
def underF (a b : Nat) : Bool := decide (a &&& (18446744073709551615 - b) = 0)
def firstF (n : Int) : Nat := 2 ^ (min (max n 0) 64).toNat - 1
theorem p64 : (2 : Nat) ^ 64 = 18446744073709551616 := by decide
theorem onlyF_lt (o : Int) : onlyF o < 18446744073709551616 := by
  unfold onlyF
  split
  · rw [← p64]; exact Nat.pow_lt_pow_right (by decide) (by omega)
  · decide
theorem testBit_only (o : Int) (i : Nat) : (onlyF o).testBit i = decide ((i : Int) + 1 = o ∧ i < 64) := by
  unfold onlyF
  split
  · rw [Nat.testBit_two_pow]
    congr 1
    apply propext
    constructor
    · intro h; omega
    · intro h; omega
  · rw [Nat.zero_testBit]
    symm
    rw [decide_eq_false_iff_not]
    omega
theorem testBit_not (x i : Nat) (hx : x < 18446744073709551616) : (18446744073709551615 - x).testBit i = (decide (i < 64) && !x.testBit i) := by
  have := Nat.testBit_two_pow_sub_succ (x := x) (n := 64) (by rw [p64]; exact hx) i
  rw [p64] at this
  rw [← this]
  congr 1
  omega
theorem testBit_add (s : Nat) (o : Int) (i : Nat) : (addF s o).testBit i = (s.testBit i || decide ((i : Int) + 1 = o ∧ i < 64)) := by
  rw [addF, Nat.testBit_or, testBit_only]
theorem testBit_high {s i : Nat} (hs : s < 18446744073709551616) (h : s.testBit i = true) : i < 64 := by
  apply Nat.lt_of_not_le
  intro hle
  rw [Nat.testBit_lt_two_pow (Nat.lt_of_lt_of_le (by rw [← p64] at hs; exact hs) (Nat.pow_le_pow_right (by decide) hle))] at h
  cases h
theorem add_lt {s : Nat} (hs : s < 18446744073709551616) (o : Int) : addF s o < 18446744073709551616 := by
  have := onlyF_lt o
  rw [← p64] at *
  exact Nat.or_lt_two_pow hs this
theorem has_bit (s : Nat) (i : Nat) (hi : i < 64) : hasF s ((i : Int) + 1) = s.testBit i := by
  unfold hasF
  rw [decide_eq_true (by omega : 1 ≤ (i : Int) + 1), decide_eq_true (by omega : (i : Int) + 1 ≤ 64), show ((i : Int) + 1 - 1).toNat = i by omega]
  simp
theorem has_no (s : Nat) (o : Int) (h : ¬ (1 ≤ o ∧ o ≤ 64)) : hasF s o = false := by
  unfold hasF
  by_cases h1 : 1 ≤ o
  · rw [decide_eq_false (by omega : ¬ o ≤ 64)]; simp
  · rw [decide_eq_false h1]; simp
theorem has_eq (s : Nat) (o : Int) : hasF s o = decide (s &&& onlyF o ≠ 0) := by
  by_cases h : 1 ≤ o ∧ o ≤ 64
  · obtain ⟨i, rfl⟩ : ∃ i : Nat, o = (i : Int) + 1 := ⟨(o - 1).toNat, by omega⟩
    rw [has_bit _ _ (by omega)]
    cases hb : s.testBit i with
    | true =>
      symm; rw [decide_eq_true_eq]
      intro h0
      have : (s &&& onlyF ((i : Int) + 1)).testBit i = true := by rw [Nat.testBit_and, testBit_only, hb]; simp; omega
      rw [h0, Nat.zero_testBit] at this; cases this
    | false =>
      symm; rw [decide_eq_false_iff_not, Decidable.not_not]
      apply Nat.eq_of_testBit_eq
      intro j
      rw [Nat.testBit_and, testBit_only, Nat.zero_testBit]
      by_cases hj : j = i
      · subst hj; rw [hb]; rfl
      · rw [decide_eq_false (by omega)]; simp
  · rw [has_no _ _ h]
    unfold onlyF
    rw [if_neg h]; simp
/-- two sets are one, if they have the same objects -/
theorem set_ext {a b : Nat} (ha : a < 18446744073709551616) (hb : b < 18446744073709551616) (h : ∀ i, i < 64 → a.testBit i = b.testBit i) : a = b := by
  apply Nat.eq_of_testBit_eq
  intro i
  by_cases hi : i < 64
  · exact h i hi
  · have e : ∀ x, x < 18446744073709551616 → x.testBit i = false := fun x hx => by
      cases hb : x.testBit i with
      | false => rfl
      | true => exact absurd (testBit_high hx hb) hi
    rw [e a ha, e b hb]
theorem mem_objs {s : Nat} {o : Int} : o ∈ objs s ↔ hasF s o = true := by
  unfold objs
  rw [List.mem_map]
  constructor
  · rintro ⟨i, hi, rfl⟩
    rw [List.mem_filter, List.mem_range] at hi
    rw [has_bit _ _ hi.1]; exact hi.2
  · intro h
    by_cases ho : 1 ≤ o ∧ o ≤ 64
    · obtain ⟨i, rfl⟩ : ∃ i : Nat, o = (i : Int) + 1 := ⟨(o - 1).toNat, by omega⟩
      rw [has_bit _ _ (by omega)] at h
      exact ⟨i, List.mem_filter.2 ⟨List.mem_range.2 (by omega), h⟩, rfl⟩
    · rw [has_no _ _ ho] at h; cases h
theorem objs_rng {s : Nat} {o : Int} (h : o ∈ objs s) : 1 ≤ o ∧ o ≤ 64 := by
  apply Decidable.byContradiction
  intro ho
  rw [mem_objs, has_no _ _ ho] at h; cases h
theorem objs_zero : objs 0 = [] := by
  unfold objs
  rw [List.filter_eq_nil_iff.2 (fun i _ => by rw [Nat.zero_testBit]; decide)]; rfl
theorem objs_rise (s : Nat) : (objs s).Pairwise (· < ·) := by
  unfold objs
  rw [List.pairwise_map]
  exact (List.Pairwise.filter _ List.pairwise_lt_range).imp fun h => by omega
theorem objs_len (s : Nat) : (objs s).length ≤ 64 := by
  unfold objs
  rw [List.length_map]
  have := List.length_filter_le (fun i => s.testBit i) (List.range 64)
  rwa [List.length_range] at this
/-- the lowest object comes first; what is left lists the rest -/
theorem low_step {s : Nat} (h0 : s ≠ 0) (hs : s < 18446744073709551616) :
    Go.Lib.ctz 64 s < 64 ∧ s.testBit (Go.Lib.ctz 64 s) = true ∧ (∀ i, i < Go.Lib.ctz 64 s → s.testBit i = false) ∧ ∀ i, (s &&& (s - 1)).testBit i = (s.testBit i && decide (i ≠ Go.Lib.ctz 64 s)) := by
  obtain ⟨m, hm, hk⟩ := Go.Lib.ctzFrom_spec 64 s (by omega) (by rw [p64]; exact hs)
  have e : Go.Lib.ctz 64 s = Go.Lib.ctzFrom 64 s := by unfold Go.Lib.ctz; rw [if_neg h0]
  rw [e]
  generalize Go.Lib.ctzFrom 64 s = k at *
  have hb : ∀ i, s.testBit i = (decide (k ≤ i) && (2 * m + 1).testBit (i - k)) := fun i => by
    rw [hm, Nat.mul_comm, Nat.testBit_mul_two_pow]
  have h1 : s - 1 = 2 ^ k * (2 * m) + (2 ^ k - 1) := by
    have : 0 < 2 ^ k := Nat.two_pow_pos k
    rw [hm, Nat.mul_add, Nat.mul_one]; omega
  have hb1 : ∀ i, (s - 1).testBit i = if i < k then true else (2 * m).testBit (i - k) := fun i => by
    have hlt : 2 ^ k - 1 < 2 ^ k := by have : 0 < 2 ^ k := Nat.two_pow_pos k; omega
    rw [h1, Nat.testBit_two_pow_mul_add _ hlt]
    split
    · rw [Nat.testBit_two_pow_sub_one]; simp [*]
    · rfl
  refine ⟨hk, ?_, ?_, ?_⟩
  · rw [hb]; simp
  · intro i hi; rw [hb, decide_eq_false (by omega)]; rfl
  · intro i
    rw [Nat.testBit_and, hb1, hb]
    by_cases hi : i < k
    · rw [decide_eq_false (by omega : ¬ k ≤ i)]; rfl
    · rw [if_neg hi, decide_eq_true (by omega : k ≤ i)]
      by_cases hik : i = k
      · subst hik; simp
      · obtain ⟨j, rfl⟩ : ∃ j, i = k + (j + 1) := ⟨i - k - 1, by omega⟩
        rw [decide_eq_true hik, show k + (j + 1) - k = j + 1 by omega, Nat.testBit_succ, Nat.testBit_succ, show (2 * m + 1) / 2 = m by omega, show 2 * m / 2 = m by omega]
        cases m.testBit j <;> rfl
theorem filter_split (p : Nat → Bool) (k n : Nat) (hk : k < n) (hp : p k = true) (hlow : ∀ i, i < k → p i = false) :
    (List.range n).filter p = k :: (List.range n).filter fun i => p i && decide (i ≠ k) := by
  obtain ⟨d, rfl⟩ : ∃ d, n = (k + 1) + d := ⟨n - (k + 1), by omega⟩
  rw [List.range_add, List.filter_append, List.filter_append, List.range_succ, List.filter_append, List.filter_append]
  have a1 : (List.range k).filter p = [] := List.filter_eq_nil_iff.2 fun i hi => by rw [hlow i (List.mem_range.1 hi)]; decide
  have a2 : ((List.range k).filter fun i => p i && decide (i ≠ k)) = [] := List.filter_eq_nil_iff.2 fun i hi => by rw [hlow i (List.mem_range.1 hi)]; simp
  rw [a1, a2]
  have a3 : ([k].filter p) = [k] := by simp [hp]
  have a4 : ([k].filter fun i => p i && decide (i ≠ k)) = [] := by simp
  rw [a3, a4]
  simp only [List.nil_append, List.singleton_append, List.cons.injEq, true_and]
  apply List.filter_congr
  intro i hi
  obtain ⟨j, _, rfl⟩ := List.mem_map.1 hi
  rw [decide_eq_true (by omega), Bool.and_true]
theorem objs_step {s : Nat} (h0 : s ≠ 0) (hs : s < 18446744073709551616) : objs s = (((Go.Lib.ctz 64 s : Nat) : Int) + 1) :: objs (s &&& (s - 1)) := by
  obtain ⟨h1, h2, h3, h4⟩ := low_step h0 hs
  unfold objs
  rw [filter_split _ _ 64 h1 h2 h3, List.map_cons]
  congr 2
  apply List.filter_congr
  intro i _
  rw [h4]
/-- what is made of a list -/
theorem foldl_bit (l : List Int) : ∀ (s : Nat) (i : Nat), i < 64 → (l.foldl addF s).testBit i = (s.testBit i || decide ((i : Int) + 1 ∈ l)) := by
  induction l with
  | nil => intro s i _; simp
  | cons o l ih =>
    intro s i hi
    rw [List.foldl_cons, ih _ _ hi, testBit_add, Bool.or_assoc]
    congr 1
    rw [Bool.eq_iff_iff]
    simp only [Bool.or_eq_true, decide_eq_true_eq, List.mem_cons]
    constructor
    · rintro (⟨h, _⟩ | h)
      · exact .inl h
      · exact .inr h
    · rintro (h | h)
      · exact .inl ⟨h, hi⟩
      · exact .inr h
theorem ofF_bit (l : List Int) (i : Nat) (hi : i < 64) : (ofF l).testBit i = decide ((i : Int) + 1 ∈ l) := by
  rw [ofF, foldl_bit l 0 i hi, Nat.zero_testBit]; rfl
theorem foldl_lt (l : List Int) : ∀ s : Nat, s < 18446744073709551616 → l.foldl addF s < 18446744073709551616 := by
  induction l with
  | nil => intro s h; exact h
  | cons o l ih => intro s h; exact ih _ (add_lt h o)
theorem ofF_lt (l : List Int) : ofF l < 18446744073709551616 := foldl_lt l 0 (by decide)
theorem of_objs {s : Nat} (hs : s < 18446744073709551616) : ofF (objs s) = s :=
  set_ext (ofF_lt _) hs fun i hi => by
    rw [ofF_bit _ _ hi, ← has_bit s i hi, Bool.eq_iff_iff, decide_eq_true_eq, mem_objs]
theorem has_of (l : List Int) (o : Int) : hasF (ofF l) o = (decide (1 ≤ o ∧ o ≤ 64) && decide (o ∈ l)) := by
  by_cases h : 1 ≤ o ∧ o ≤ 64
  · obtain ⟨i, rfl⟩ : ∃ i : Nat, o = (i : Int) + 1 := ⟨(o - 1).toNat, by omega⟩
    rw [has_bit _ _ (by omega), ofF_bit _ _ (by omega), decide_eq_true h, Bool.true_and]
  · rw [has_no _ _ h, decide_eq_false h]; rfl
theorem under_iff {a b : Nat} (ha : a < 18446744073709551616) (hb : b < 18446744073709551616) : underF a b = true ↔ ∀ i, i < 64 → a.testBit i = true → b.testBit i = true := by
  unfold underF
  rw [decide_eq_true_eq]
  constructor
  · intro h i hi hai
    have : (a &&& (18446744073709551615 - b)).testBit i = false := by rw [h, Nat.zero_testBit]
    rw [Nat.testBit_and, testBit_not _ _ hb, hai, decide_eq_true hi] at this
    simpa using this
  · intro h
    apply Nat.eq_of_testBit_eq
    intro i
    rw [Nat.testBit_and, testBit_not _ _ hb, Nat.zero_testBit]
    cases hai : a.testBit i with
    | false => rfl
    | true =>
      have hi := testBit_high ha hai
      rw [h i hi hai]; simp
theorem first_lt (n : Int) : firstF n < 18446744073709551616 := by
  unfold firstF
  have := Nat.pow_le_pow_right (n := 2) (by decide) (show (min (max n 0) 64).toNat ≤ 64 by omega)
  rw [p64] at this
  omega
theorem first_bit (n : Int) (i : Nat) : (firstF n).testBit i = decide ((i : Int) < n ∧ i < 64) := by
  unfold firstF
  rw [Nat.testBit_two_pow_sub_one]
  congr 1
  apply propext
  omega
theorem has_first (n o : Int) : hasF (firstF n) o = decide (1 ≤ o ∧ o ≤ 64 ∧ o ≤ n) := by
  by_cases h : 1 ≤ o ∧ o ≤ 64
  · obtain ⟨i, rfl⟩ : ∃ i : Nat, o = (i : Int) + 1 := ⟨(o - 1).toNat, by omega⟩
    rw [has_bit _ _ (by omega), first_bit]
    congr 1
    apply propext
    omega
  · rw [has_no _ _ h]
    symm; rw [decide_eq_false_iff_not]; omega
end Go.Proofs.YtdmbcjckgfjcaaaGreatDoor
/- Layer set: plain facts on counting bits. No program in this text. -/
namespace Go.Proofs.YtdmbcjckgfjcaaaGreatDoor
theorem and_split (a b p q : Nat) (ha : a < 256) (hp : p < 256) : (a + 256 * b) &&& (p + 256 * q) = (a &&& p) + 256 * (b &&& q) := by
  have hap : a &&& p < 2 ^ 8 := Nat.and_lt_two_pow _ hp
  apply Nat.eq_of_testBit_eq
  intro i
  have e : ∀ x y : Nat, x + 256 * y = 2 ^ 8 * y + x := fun x y => by rw [Nat.add_comm]
  rw [Nat.testBit_and, e a b, e p q, e (a &&& p), Nat.testBit_two_pow_mul_add _ ha, Nat.testBit_two_pow_mul_add _ hp, Nat.testBit_two_pow_mul_add _ hap]
  split <;> rw [Nat.testBit_and]
def val (l : List Nat) : Nat := l.foldr (fun a acc => a + 256 * acc) 0
def msk (p : Nat) : Nat → Nat | 0 => 0 | n + 1 => p + 256 * msk p n
def s1b (a : Nat) : Nat := (a / 2 &&& 85) + (a &&& 85)
def s2b (a : Nat) : Nat := (a / 4 &&& 51) + (a &&& 51)
def s3b (a : Nat) : Nat := (a / 16 + a) &&& 15
theorem val_cons (a : Nat) (l : List Nat) : val (a :: l) = a + 256 * val l := rfl
theorem f1 : ∀ a, a < 256 → (∀ c, c < 2 → (a / 2 + 128 * c) &&& 85 = a / 2 &&& 85) ∧ s1b a < 256 := by decide +kernel
theorem f2 : ∀ a, a < 256 → (∀ c, c < 4 → (a / 4 + 64 * c) &&& 51 = a / 4 &&& 51) ∧ s2b a < 256 ∧ s2b a % 16 ≤ 4 + 2 ∧ s2b a / 16 ≤ 4 + 2 := by decide +kernel
theorem f21 : ∀ a, a < 256 → s2b (s1b a) % 16 ≤ 4 ∧ s2b (s1b a) / 16 ≤ 4 ∧ s2b (s1b a) < 256 := by decide +kernel
theorem f3 : ∀ a, a < 256 → (∀ c, c < 16 → (a / 16 + 16 * c + a) &&& 15 = (a / 16 + a) &&& 15) := by decide +kernel
theorem sw1 : ∀ l : List Nat, (∀ a ∈ l, a < 256) → (val l / 2 &&& msk 85 l.length) + (val l &&& msk 85 l.length) = val (l.map s1b)
  | [], _ => by simp [val, msk]
  | a :: l, h => by
    have ih := sw1 l fun x hx => h x (List.mem_cons_of_mem _ hx)
    have ha := h a (List.mem_cons_self ..)
    have f := f1 a ha
    rw [val_cons, List.map_cons, val_cons, ← ih, List.length_cons, msk, show (a + 256 * val l) / 2 = (a / 2 + 128 * (val l % 2)) + 256 * (val l / 2) by omega,
      and_split _ _ _ _ (by omega) (by decide), and_split _ _ _ _ ha (by decide), f.1 _ (Nat.mod_lt _ (by decide)), s1b]
    omega
theorem sw2 : ∀ l : List Nat, (∀ a ∈ l, a < 256) → (val l / 4 &&& msk 51 l.length) + (val l &&& msk 51 l.length) = val (l.map s2b)
  | [], _ => by simp [val, msk]
  | a :: l, h => by
    have ih := sw2 l fun x hx => h x (List.mem_cons_of_mem _ hx)
    have ha := h a (List.mem_cons_self ..)
    have f := f2 a ha
    rw [val_cons, List.map_cons, val_cons, ← ih, List.length_cons, msk, show (a + 256 * val l) / 4 = (a / 4 + 64 * (val l % 4)) + 256 * (val l / 4) by omega,
      and_split _ _ _ _ (by omega) (by decide), and_split _ _ _ _ ha (by decide), f.1 _ (Nat.mod_lt _ (by decide)), s2b]
    omega
theorem val_mod (l : List Nat) (h : ∀ a ∈ l, a % 16 ≤ 4) : val l % 16 ≤ 4 := by
  cases l with
  | nil => simp [val]
  | cons a l => have := h a (List.mem_cons_self ..); rw [val_cons]; omega
theorem sw3 : ∀ l : List Nat, (∀ a ∈ l, a % 16 ≤ 4 ∧ a / 16 ≤ 4 ∧ a < 256) → (val l / 16 + val l) &&& msk 15 l.length = val (l.map s3b)
  | [], _ => by simp [val, msk]
  | a :: l, h => by
    have ih := sw3 l fun x hx => h x (List.mem_cons_of_mem _ hx)
    obtain ⟨h1, h2, h3⟩ := h a (List.mem_cons_self ..)
    have hv := val_mod l fun x hx => (h x (List.mem_cons_of_mem _ hx)).1
    have f := f3 a h3
    rw [val_cons, List.map_cons, val_cons, ← ih, List.length_cons, msk, show (a + 256 * val l) / 16 + (a + 256 * val l) = (a / 16 + 16 * (val l % 16) + a) + 256 * (val l / 16 + val l) by omega,
      and_split _ _ _ _ (by omega) (by decide), f _ (by omega), s3b]
/-- how many bits are set among the lowest n -/
def pcn (n s : Nat) : Nat := ((List.range n).filter fun i => s.testBit i).length
theorem pcn_byte : ∀ a, a < 256 → s3b (s2b (s1b a)) = pcn 8 a ∧ pcn 8 a ≤ 8 := by decide +kernel
theorem pcn_step (n s : Nat) : pcn (8 + n) s = pcn 8 (s % 256) + pcn n (s / 256) := by
  unfold pcn
  rw [List.range_add, List.filter_append, List.length_append]
  congr 1
  · congr 1
    apply List.filter_congr
    intro i hi
    rw [show (256 : Nat) = 2 ^ 8 from rfl, Nat.testBit_mod_two_pow, decide_eq_true (List.mem_range.1 hi), Bool.true_and]
  · rw [List.filter_map, List.length_map]
    congr 1
    apply List.filter_congr
    intro i _
    show s.testBit (8 + i) = _
    rw [show (256 : Nat) = 2 ^ 8 from rfl, Nat.testBit_div_two_pow, Nat.add_comm]
theorem cnt_pcn (s : Nat) : cntF s = pcn 64 s := by unfold cntF objs pcn; rw [List.length_map]
def pop1 (s : Nat) : Nat := (s / 2 &&& 6148914691236517205) + (s &&& 6148914691236517205)
def pop2 (s : Nat) : Nat := (pop1 s / 4 &&& 3689348814741910323) + (pop1 s &&& 3689348814741910323)
def pop3 (s : Nat) : Nat := (pop2 s / 16 + pop2 s) &&& 1085102592571150095
theorem val_lt : ∀ l : List Nat, (∀ a ∈ l, a < 256) → val l < 256 ^ l.length
  | [], _ => by simp [val]
  | a :: l, h => by
    have ih := val_lt l fun x hx => h x (List.mem_cons_of_mem _ hx)
    have ha := h a (List.mem_cons_self ..)
    rw [val_cons, List.length_cons, Nat.pow_succ]; omega
theorem val_le68 : ∀ l : List Nat, (∀ a ∈ l, a ≤ 68) → 255 * val l + 68 ≤ 68 * 256 ^ l.length
  | [], _ => by simp [val]
  | a :: l, h => by
    have ih := val_le68 l fun x hx => h x (List.mem_cons_of_mem _ hx)
    have ha := h a (List.mem_cons_self ..)
    rw [val_cons, List.length_cons, Nat.pow_succ]; omega
theorem val_le8 : ∀ l : List Nat, (∀ a ∈ l, a ≤ 8) → 255 * val l + 8 ≤ 8 * 256 ^ l.length
  | [], _ => by simp [val]
  | a :: l, h => by
    have ih := val_le8 l fun x hx => h x (List.mem_cons_of_mem _ hx)
    have ha := h a (List.mem_cons_self ..)
    rw [val_cons, List.length_cons, Nat.pow_succ]; omega
theorem p256 (n : Nat) (h : n = 8) : 256 ^ n = 18446744073709551616 := by subst h; decide
theorem div_low (c k R : Nat) (hk : 0 < k) (hc : c < k) : (c + k * R) / k = R := by
  rw [Nat.add_mul_div_left _ _ hk, Nat.div_eq_of_lt hc, Nat.zero_add]
theorem lin1 (c0 c1 c2 c3 c4 c5 c6 c7 : Nat) : (c0 + 256 * (c1 + 256 * (c2 + 256 * (c3 + 256 * (c4 + 256 * (c5 + 256 * (c6 + 256 * (c7 + 256 * 0)))))))) + (c1 + 256 * (c2 + 256 * (c3 + 256 * (c4 + 256 * (c5 + 256 * (c6 + 256 * (c7 + 256 * 0))))))) =
    (c0 + c1 + 256 * (c1 + c2)) + 65536 * ((c2 + c3) + 256 * ((c3 + c4) + 256 * ((c4 + c5) + 256 * ((c5 + c6) + 256 * ((c6 + c7) + 256 * c7))))) := by omega
theorem lin2 (d0 d1 d2 d3 d4 d5 d6 d7 : Nat) : (d0 + 256 * d1) + 65536 * (d2 + 256 * (d3 + 256 * (d4 + 256 * (d5 + 256 * (d6 + 256 * d7))))) + (d2 + 256 * (d3 + 256 * (d4 + 256 * (d5 + 256 * (d6 + 256 * d7))))) =
    ((d0 + d2) + 256 * (d1 + d3) + 65536 * (d2 + d4) + 16777216 * (d3 + d5)) + 4294967296 * ((d4 + d6) + 256 * ((d5 + d7) + 256 * (d6 + 256 * d7))) := by omega
theorem lin3 (a b c d e R S : Nat) (h : a + e < 128) : (a + 256 * b + 65536 * c + 16777216 * d + 4294967296 * R + (e + 256 * S)) % 128 = a + e := by omega
theorem lt2 {c0 c1 c2 : Nat} (h0 : c0 ≤ 8) (h1 : c1 ≤ 8) (h2 : c2 ≤ 8) : c0 + c1 + 256 * (c1 + c2) < 65536 := by omega
theorem lt4 {c0 c1 c2 c3 c4 c5 c6 : Nat} (h0 : c0 ≤ 8) (h1 : c1 ≤ 8) (h2 : c2 ≤ 8) (h3 : c3 ≤ 8) (h4 : c4 ≤ 8) (h5 : c5 ≤ 8) (h6 : c6 ≤ 8) :
    (c0 + c1 + (c2 + c3)) + 256 * (c1 + c2 + (c3 + c4)) + 65536 * (c2 + c3 + (c4 + c5)) + 16777216 * (c3 + c4 + (c5 + c6)) < 4294967296 := by omega
theorem lt8 {c0 c1 c2 c3 c4 c5 c6 c7 : Nat} (h0 : c0 ≤ 8) (h1 : c1 ≤ 8) (h2 : c2 ≤ 8) (h3 : c3 ≤ 8) (h4 : c4 ≤ 8) (h5 : c5 ≤ 8) (h6 : c6 ≤ 8) (h7 : c7 ≤ 8) :
    (c0 + c1 + (c2 + c3)) + (c4 + c5 + (c6 + c7)) < 128 := by omega
theorem fin_sum (c0 c1 c2 c3 c4 c5 c6 c7 X Y Z U : Nat) (h0 : c0 ≤ 8) (h1 : c1 ≤ 8) (h2 : c2 ≤ 8) (h3 : c3 ≤ 8) (h4 : c4 ≤ 8) (h5 : c5 ≤ 8) (h6 : c6 ≤ 8) (h7 : c7 ≤ 8)
    (hX : X = c0 + 256 * (c1 + 256 * (c2 + 256 * (c3 + 256 * (c4 + 256 * (c5 + 256 * (c6 + 256 * (c7 + 256 * 0)))))))) (hY : Y = X + X / 256) (hZ : Z = Y + Y / 65536) (hU : U = Z + Z / 4294967296) :
    U % 128 = c0 + (c1 + (c2 + (c3 + (c4 + (c5 + (c6 + c7)))))) := by
  rw [hX, div_low _ 256 _ (by decide) (Nat.lt_of_le_of_lt h0 (by decide)), lin1] at hY
  rw [hY, div_low _ 65536 _ (by decide) (lt2 h0 h1 h2), lin2] at hZ
  rw [hZ, div_low _ 4294967296 _ (by decide) (lt4 h0 h1 h2 h3 h4 h5 h6)] at hU
  clear hX hY hZ
  rw [hU, lin3 _ _ _ _ _ _ _ (lt8 h0 h1 h2 h3 h4 h5 h6 h7)]
  clear hU
  omega
theorem fin_lt (X Y Z U : Nat) (hX : 255 * X + 8 ≤ 8 * 18446744073709551616) (hY : Y = X + X / 256) (hZ : Z = Y + Y / 65536) (hU : U = Z + Z / 4294967296) :
    X < 18446744073709551616 ∧ Y < 18446744073709551616 ∧ Z < 18446744073709551616 ∧ U < 18446744073709551616 := by omega
theorem pop2_lt (X : Nat) (hX : 255 * X + 68 ≤ 68 * 18446744073709551616) : X < 18446744073709551616 ∧ X / 16 + X < 18446744073709551616 := by omega
theorem g68 (x : Nat) (hx : x < 256) : s1b x < 256 ∧ s2b (s1b x) ≤ 68 := by have := (f1 x hx).2; have := f21 x hx; omega
theorem pl1 (L : List Nat) (hb : ∀ a ∈ L, a < 256) (hl : L.length = 8) {s : Nat} (e : s = val (L.map s1b)) : s < 18446744073709551616 := by
  have hP := val_lt (L.map s1b) (fun a ha => by obtain ⟨x, hx, rfl⟩ := List.mem_map.1 ha; exact (g68 x (hb x hx)).1)
  rw [p256 _ (by simp [hl]), ← e] at hP
  exact hP
theorem pl2 (L : List Nat) (hb : ∀ a ∈ L, a < 256) (hl : L.length = 8) {s : Nat} (e : s = val ((L.map s1b).map s2b)) : s < 18446744073709551616 ∧ s / 16 + s < 18446744073709551616 := by
  have hP := val_le68 ((L.map s1b).map s2b) (fun a ha => by obtain ⟨y, hy, rfl⟩ := List.mem_map.1 ha; obtain ⟨x, hx, rfl⟩ := List.mem_map.1 hy; exact (g68 x (hb x hx)).2)
  rw [p256 _ (by simp [hl]), ← e] at hP
  exact pop2_lt _ hP
theorem pl3 (L : List Nat) (hb : ∀ a ∈ L, a < 256) (hl : L.length = 8) {s : Nat} (e : s = val (((L.map s1b).map s2b).map s3b)) : 255 * s + 8 ≤ 8 * 18446744073709551616 := by
  have hP := val_le8 (((L.map s1b).map s2b).map s3b) (fun a ha => by
    obtain ⟨z, hz, rfl⟩ := List.mem_map.1 ha; obtain ⟨y, hy, rfl⟩ := List.mem_map.1 hz; obtain ⟨x, hx, rfl⟩ := List.mem_map.1 hy
    have := pcn_byte x (hb x hx); omega)
  rw [p256 _ (by simp [hl]), ← e] at hP
  exact hP
theorem pop_all (s : Nat) (hs : s < 18446744073709551616) (Y Z U : Nat) (hY : Y = pop3 s + pop3 s / 256) (hZ : Z = Y + Y / 65536) (hU : U = Z + Z / 4294967296) :
    U % 128 = cntF s ∧ pop1 s < 18446744073709551616 ∧ pop2 s < 18446744073709551616 ∧ pop2 s / 16 + pop2 s < 18446744073709551616 ∧ pop3 s < 18446744073709551616 ∧ Y < 18446744073709551616 ∧ Z < 18446744073709551616 ∧ U < 18446744073709551616 := by
  obtain ⟨b0, b1, b2, b3, b4, b5, b6, b7, h0, h1, h2, h3, h4, h5, h6, h7, hv⟩ : ∃ b0 b1 b2 b3 b4 b5 b6 b7, b0 < 256 ∧ b1 < 256 ∧ b2 < 256 ∧ b3 < 256 ∧ b4 < 256 ∧ b5 < 256 ∧ b6 < 256 ∧ b7 < 256 ∧ s = val [b0, b1, b2, b3, b4, b5, b6, b7] := by
    refine ⟨s % 256, s / 256 % 256, s / 256 / 256 % 256, s / 256 / 256 / 256 % 256, s / 256 / 256 / 256 / 256 % 256, s / 256 / 256 / 256 / 256 / 256 % 256, s / 256 / 256 / 256 / 256 / 256 / 256 % 256, s / 256 / 256 / 256 / 256 / 256 / 256 / 256 % 256, ?_⟩
    refine ⟨by omega, by omega, by omega, by omega, by omega, by omega, by omega, by omega, ?_⟩
    simp only [val, List.foldr_cons, List.foldr_nil]
    omega
  have hc : cntF s = pcn 8 b0 + (pcn 8 b1 + (pcn 8 b2 + (pcn 8 b3 + (pcn 8 b4 + (pcn 8 b5 + (pcn 8 b6 + pcn 8 b7)))))) := by
    have st : ∀ n a (l : List Nat), a < 256 → pcn (8 + n) (val (a :: l)) = pcn 8 a + pcn n (val l) := fun n a l ha => by
      rw [pcn_step, val_cons, show (a + 256 * val l) % 256 = a by omega, show (a + 256 * val l) / 256 = val l by omega]
    rw [cnt_pcn, hv, show (64 : Nat) = 8 + (8 + (8 + (8 + (8 + (8 + (8 + (8 + 0))))))) from rfl]
    rw [st _ _ _ h0, st _ _ _ h1, st _ _ _ h2, st _ _ _ h3, st _ _ _ h4, st _ _ _ h5, st _ _ _ h6, st _ _ _ h7]
    have z : pcn 0 (val []) = 0 := rfl
    rw [z]; omega
  have all : ∀ P : Nat → Prop, P b0 → P b1 → P b2 → P b3 → P b4 → P b5 → P b6 → P b7 → ∀ a ∈ [b0, b1, b2, b3, b4, b5, b6, b7], P a := by
    intro P p0 p1 p2 p3 p4 p5 p6 p7 a ha
    simp only [List.mem_cons, List.mem_nil_iff, or_false] at ha
    rcases ha with rfl | rfl | rfl | rfl | rfl | rfl | rfl | rfl <;> assumption
  have hb := all (· < 256) h0 h1 h2 h3 h4 h5 h6 h7
  have m85 : msk 85 8 = 6148914691236517205 := by decide +kernel
  have m51 : msk 51 8 = 3689348814741910323 := by decide +kernel
  have m15 : msk 15 8 = 1085102592571150095 := by decide +kernel
  have e1 : pop1 s = val ([b0, b1, b2, b3, b4, b5, b6, b7].map s1b) := by
    rw [← sw1 _ hb, ← hv]; unfold pop1; rw [← m85]; rfl
  have e2 : pop2 s = val (([b0, b1, b2, b3, b4, b5, b6, b7].map s1b).map s2b) := by
    rw [← sw2 _ (fun a ha => by obtain ⟨x, hx, rfl⟩ := List.mem_map.1 ha; exact (f1 x (hb x hx)).2), ← e1]; unfold pop2; rw [← m51]; rfl
  have e3 : pop3 s = val ((([b0, b1, b2, b3, b4, b5, b6, b7].map s1b).map s2b).map s3b) := by
    rw [← sw3 _ (fun a ha => by obtain ⟨y, hy, rfl⟩ := List.mem_map.1 ha; obtain ⟨x, hx, rfl⟩ := List.mem_map.1 hy; exact f21 x (hb x hx)), ← e2]; unfold pop3; rw [← m15]; rfl
  have hlen : [b0, b1, b2, b3, b4, b5, b6, b7].length = 8 := rfl
  have l1 : pop1 s < 18446744073709551616 := pl1 _ hb hlen e1
  have l2 := pl2 _ hb hlen e2
  have l3 := pl3 _ hb hlen e3
  clear all
  have p0 := pcn_byte b0 h0; have p1 := pcn_byte b1 h1; have p2 := pcn_byte b2 h2; have p3 := pcn_byte b3 h3; have p4 := pcn_byte b4 h4; have p5 := pcn_byte b5 h5; have p6 := pcn_byte b6 h6; have p7 := pcn_byte b7 h7
  have r1 := fin_sum (pcn 8 b0) (pcn 8 b1) (pcn 8 b2) (pcn 8 b3) (pcn 8 b4) (pcn 8 b5) (pcn 8 b6) (pcn 8 b7) (pop3 s) Y Z U p0.2 p1.2 p2.2 p3.2 p4.2 p5.2 p6.2 p7.2
    (by rw [e3, ← p0.1, ← p1.1, ← p2.1, ← p3.1, ← p4.1, ← p5.1, ← p6.1, ← p7.1]; rfl) hY hZ hU
  obtain ⟨r2, r3, r4, r5⟩ := fin_lt (pop3 s) Y Z U l3 hY hZ hU
  exact ⟨by rw [r1, hc], l1, l2.1, l2.2, r2, r3, r4, r5⟩
end Go.Proofs.YtdmbcjckgfjcaaaGreatDoor
/- Layer code: what the chapter asks, as plain functions, and what follows. No program in this text. -/
namespace Go.Proofs.YtdmbcjckgfjcaaaGreatDoor
structure Oq where
  kind : Int
  r : Int
  a : Int
  s : Int
deriving DecidableEq
def cRight (o : Oq) (regs slots : Int) : Bool :=
  decide (0 ≤ o.r ∧ o.r < min regs 4 ∧ 0 ≤ o.a ∧ 0 ≤ o.s) &&
    (if o.kind = 1 ∨ o.kind = 2 then decide (o.a < min regs 4 ∧ o.s < min slots 4) else if o.kind = 3 ∨ o.kind = 5 then decide (o.a = 0 ∧ o.s = 0) else if o.kind = 4 then decide (o.a < min regs 4 ∧ o.s = 0) else false)
def cFits (l : List Oq) (regs slots : Int) : Bool := l.all (fun o => cRight o regs slots) && decide (l.length ≤ 64)
end Go.Proofs.YtdmbcjckgfjcaaaGreatDoor
/- Layer heap: what the chapter asks, as plain functions on lists. -/
namespace Go.Proofs.YtdmbcjckgfjcaaaGreatDoor
abbrev Rws := List (List Int)
def hasO (ls : Rws) (o : Int) : Bool := decide (1 ≤ o ∧ o ≤ ls.length)
def mayF (ls : Rws) (v : Int) : Bool := decide (0 ≤ v ∧ v ≤ ls.length)
def rowOk (n : Int) (k : Nat) (l : List Int) : Bool := decide ((l.length : Int) = n) && l.all fun v => decide (0 ≤ v ∧ v ≤ k)
def rightF (n : Int) (ls : Rws) : Bool := decide (1 ≤ n ∧ n ≤ 4 ∧ ls.length ≤ 64) && ls.all (rowOk n ls.length)
def sameF (n : Int) (ls : Rws) (m : Int) (ms : Rws) : Bool := decide (n = m ∧ ls = ms)
/-- what memory bears -/
def Fit (ls : Rws) : Prop := ls.length * 24 ≤ 140737488351232 ∧ ∀ l ∈ ls, l.length * 8 ≤ 140737488351232
/-- each number is an int -/
def Rng (ls : Rws) : Prop := ∀ l ∈ ls, ∀ o ∈ l, -9223372036854775808 ≤ o ∧ o ≤ 9223372036854775807
theorem right_len {n : Int} {ls : Rws} (h : rightF n ls = true) : 1 ≤ n ∧ n ≤ 4 ∧ ls.length ≤ 64 := by
  unfold rightF at h; rw [Bool.and_eq_true, decide_eq_true_iff] at h; exact h.1
theorem right_rows {n : Int} {ls : Rws} (h : rightF n ls = true) : ∀ l ∈ ls, (l.length : Int) = n ∧ ∀ v ∈ l, 0 ≤ v ∧ v ≤ ls.length := by
  unfold rightF at h; rw [Bool.and_eq_true, List.all_eq_true] at h
  intro l hl
  have := h.2 l hl
  unfold rowOk at this
  rw [Bool.and_eq_true, decide_eq_true_iff, List.all_eq_true] at this
  exact ⟨this.1, fun v hv => by simpa using this.2 v hv⟩
theorem right_of {n : Int} {ls : Rws} (h : 1 ≤ n ∧ n ≤ 4 ∧ ls.length ≤ 64) (h2 : ∀ l ∈ ls, (l.length : Int) = n ∧ ∀ v ∈ l, 0 ≤ v ∧ v ≤ ls.length) : rightF n ls = true := by
  unfold rightF
  rw [Bool.and_eq_true, decide_eq_true_iff, List.all_eq_true]
  refine ⟨h, fun l hl => ?_⟩
  unfold rowOk
  rw [Bool.and_eq_true, decide_eq_true_iff, List.all_eq_true]
  exact ⟨(h2 l hl).1, fun v hv => by simpa using (h2 l hl).2 v hv⟩
theorem fit_right {n : Int} {ls : Rws} (h : rightF n ls = true) : Fit ls := by
  have h1 := right_len h
  exact ⟨by omega, fun l hl => by have := (right_rows h l hl).1; omega⟩
end Go.Proofs.YtdmbcjckgfjcaaaGreatDoor
/- Layer reach: what the chapter asks, as plain functions on lists and sets. -/
namespace Go.Proofs.YtdmbcjckgfjcaaaGreatDoor
/-- an object that may be reached -/
abbrev inO (ls : Rws) (o : Int) : Prop := 1 ≤ o ∧ o ≤ 64 ∧ o ≤ (ls.length : Int)
theorem has_orRc (a b : Nat) (o : Int) : hasF (a ||| b) o = (hasF a o || hasF b o) := by
  unfold hasF; rw [Nat.testBit_or]; cases decide (1 ≤ o) <;> cases decide (o ≤ 64) <;> simp
theorem has_rng {s : Nat} {o : Int} (h : hasF s o = true) : 1 ≤ o ∧ o ≤ 64 := objs_rng (mem_objs.2 h)
theorem lor_lt {a b : Nat} (ha : a < 18446744073709551616) (hb : b < 18446744073709551616) : a ||| b < 18446744073709551616 := by
  rw [← p64] at *; exact Nat.or_lt_two_pow ha hb
theorem flt_le (p q : Nat → Bool) (h : ∀ i, p i = true → q i = true) : ∀ l : List Nat, (l.filter p).length ≤ (l.filter q).length
  | [] => Nat.le_refl _
  | x :: l => by
    have := flt_le p q h l
    by_cases hp : p x = true
    · simp [hp, h x hp]; exact this
    · by_cases hq : q x = true <;> simp [hp, hq] <;> omega
theorem flt_eq (p q : Nat → Bool) (h : ∀ i, p i = true → q i = true) : ∀ l : List Nat, (l.filter p).length = (l.filter q).length → ∀ i ∈ l, q i = true → p i = true
  | [], _, _, hi, _ => by simp at hi
  | x :: l, he, i, hi, hq => by
    have hle := flt_le p q h l
    by_cases hp : p x = true
    · simp [hp, h x hp] at he
      rcases List.mem_cons.1 hi with rfl | hi
      · exact hp
      · exact flt_eq p q h l he i hi hq
    · by_cases hqx : q x = true
      · simp [hp, hqx] at he; omega
      · simp [hp, hqx] at he
        rcases List.mem_cons.1 hi with rfl | hi
        · exact absurd hq hqx
        · exact flt_eq p q h l he i hi hq
/-- what has more is more -/
theorem cnt_more {a b : Nat} (ha : a < 18446744073709551616) (hb : b < 18446744073709551616) (h : ∀ o, hasF a o = true → hasF b o = true) : a = b ∨ cntF a < cntF b := by
  have hbit : ∀ i, a.testBit i = true → b.testBit i = true := fun i hi => by
    have h64 := testBit_high ha hi
    rw [← has_bit b i h64]; rw [← has_bit a i h64] at hi; exact h _ hi
  have hle := flt_le (fun i => a.testBit i) (fun i => b.testBit i) hbit (List.range 64)
  by_cases he : ((List.range 64).filter fun i => a.testBit i).length = ((List.range 64).filter fun i => b.testBit i).length
  · left
    have hr := flt_eq _ _ hbit (List.range 64) he
    refine set_ext ha hb fun i hi => ?_
    rw [Bool.eq_iff_iff]
    exact ⟨hbit i, hr i (List.mem_range.2 hi)⟩
  · right
    unfold cntF objs
    rw [List.length_map, List.length_map]; omega
end Go.Proofs.YtdmbcjckgfjcaaaGreatDoor
/- Layer reach: plain facts for the statements: what is reached from what is reached; by way of some; a slot cleared. -/
namespace Go.Proofs.YtdmbcjckgfjcaaaGreatDoor
theorem under_hasRc {a b : Nat} (ha : a < 18446744073709551616) (hb : b < 18446744073709551616) : underF a b = true ↔ ∀ x, hasF a x = true → hasF b x = true := by
  rw [under_iff ha hb]
  constructor
  · intro h x hx
    have hr := has_rng hx
    obtain ⟨i, rfl⟩ : ∃ i : Nat, x = (i : Int) + 1 := ⟨(x - 1).toNat, by omega⟩
    rw [has_bit _ _ (by omega)] at hx ⊢
    exact h i (by omega) hx
  · intro h i hi hx
    rw [← has_bit _ _ hi] at hx ⊢
    exact h _ hx
end Go.Proofs.YtdmbcjckgfjcaaaGreatDoor
/- A region that draws its order, and stores into what it has loaded: the loads are taken first while no store has come up (the stores wait for them). -/
namespace Go.Proofs.YtdmbcjckgfjcaaaGreatDoor

section
variable {P : Program} {ops : Array Oper} {Q : Exit → Act → World → Prop} {md : Region.Mode} {S : World → Prop} {br : List Nat}

/-- none of these has come up -/
def unl (br : List Nat) (l : Array Bool) : Bool := br.all fun b => l.getD b true == false
theorem unl_set {l : Array Bool} {i : Nat} (hi : i ∉ br) : unl br (l.setIfInBounds i true) = unl br l := by
  unfold unl
  rw [Bool.eq_iff_iff, List.all_eq_true, List.all_eq_true]
  constructor
  · intro h b hb
    have := h b hb
    rwa [getD_set_ne true (show i ≠ b from fun e => hi (by rw [e]; exact hb))] at this
  · intro h b hb
    rw [getD_set_ne true (show i ≠ b from fun e => hi (by rw [e]; exact hb))]
    exact h b hb
/-- whatever order is picked from here on; S holds behind every operation till one of br has come up -/
def wpAnyB (P : Program) (md : Region.Mode) (ops : Array Oper) (Q : Exit → Act → World → Prop) (S : World → Prop) (br : List Nat) : Nat → Array Bool → Act → World → Prop
  | 0, l, a, w => Region.ready md ops l = [] ∧ Q .normal a w
  | fuel + 1, l, a, w =>
    (Region.ready md ops l = [] → Q .normal a w) ∧
    ∀ i ∈ Region.ready md ops l, wpOp P ops Q i (fun a' w' => (unl br (l.setIfInBounds i true) = true → S w') ∧ wpAnyB P md ops Q S br fuel (l.setIfInBounds i true) a' w') a w
theorem wpAny_of_B : ∀ (fuel : Nat) (l : Array Bool) (a : Act) (w : World), wpAnyB P md ops Q S br fuel l a w → wpAny P md ops Q fuel l a w
  | 0, _, _, _, h => h
  | fuel + 1, _, _, _, h => ⟨h.1, fun i hi => wpOp_mono (fun a' w' h' => wpAny_of_B fuel _ a' w' h'.2) (h.2 i hi)⟩
/-- what has come up had all come up that it waits for -/
def ClosedL (md : Region.Mode) (ops : Array Oper) (l : Array Bool) : Prop := ∀ k o, ops[k]? = some o → l.getD k false = true → ∀ e ∈ o.after, Region.binds md e = true → l.getD e.on false = true
def closedB (md : Region.Mode) (ops : Array Oper) (l : Array Bool) : Bool := (List.range ops.size).all fun k => !(l.getD k false) || (match ops[k]? with | some o => o.after.all (fun e => !(Region.binds md e) || l.getD e.on false) | none => true)
theorem closedB_spec {l : Array Bool} (h : closedB md ops l = true) : ClosedL md ops l := by
  intro k o ho hk e he hb
  have hlt : k < ops.size := (Array.getElem?_eq_some_iff.1 ho).1
  have := List.all_eq_true.1 h k (List.mem_range.2 hlt)
  rw [ho, hk, Bool.not_true, Bool.false_or] at this
  have := Array.all_eq_true'.1 this e he
  rw [hb, Bool.not_true, Bool.false_or] at this
  exact this
theorem ClosedL.set {l : Array Bool} {j : Nat} (h : ClosedL md ops l) (hj : j ∈ Region.ready md ops l) : ClosedL md ops (l.setIfInBounds j true) := by
  intro k o ho hk e he hb
  refine getD_set_true ?_
  by_cases hjk : j = k
  · subst hjk
    obtain ⟨_, oj, hoj, hall⟩ := mem_ready.1 hj
    rw [hoj] at ho
    cases ho
    exact hall e he hb
  · rw [getD_set_ne false hjk] at hk
    exact h k o ho hk e he hb
/-- does b wait for i, be it by others? -/
def depB (md : Region.Mode) (ops : Array Oper) (i : Nat) : Nat → Nat → Bool
  | 0, _ => false
  | f + 1, b => match ops[b]? with | some ob => ob.after.any (fun e => Region.binds md e && (e.on == i || depB md ops i f e.on)) | none => false
theorem dep_spec {l : Array Bool} (hc : ClosedL md ops l) {i : Nat} : ∀ (f b : Nat) (ob : Oper), ops[b]? = some ob → (∀ e ∈ ob.after, Region.binds md e = true → l.getD e.on false = true) → depB md ops i f b = true → l.getD i false = true
  | 0, _, _, _, _, h => by cases h
  | f + 1, b, ob, ho, hall, h => by
    rw [depB, ho] at h
    simp only [Array.any_eq_true', Bool.and_eq_true, Bool.or_eq_true, beq_iff_eq] at h
    obtain ⟨e, he, hb, h⟩ := h
    have hl := hall e he hb
    rcases h with h | h
    · rwa [h] at hl
    · cases ho2 : ops[e.on]? with
      | none =>
        cases f with
        | zero => cases h
        | succ f => rw [depB, ho2] at h; cases h
      | some o2 => exact dep_spec hc f e.on o2 ho2 (hc e.on o2 ho2 hl) h
def waitB (md : Region.Mode) (ops : Array Oper) (br : List Nat) (i : Nat) : Bool := br.all fun b => depB md ops i ops.size b
/-- an operation may be taken first: T is what it asks of the world; where T asks something, br's operations wait for it -/
theorem wpAnyB_first {T : World → Prop} {i : Nat} {oi : Oper} {v : Value} (hi : ops[i]? = some oi) (hib : i ∉ br) (hsel : ∀ (j : Nat) (o : Oper) cs b, ops[j]? = some o → o.op ≠ .select cs b)
    (hQ : ∀ c a w, Q (.panic c) (a.put oi.dst v) w → Q (.panic c) a w) (hT : (∀ w, T w) ∨ ((∀ w, S w → T w) ∧ waitB md ops br i = true)) :
    ∀ (fuel : Nat) (l : Array Bool) (a : Act) (w : World),
      (∀ j oj, ops[j]? = some oj → j ≠ i → l.getD j true = false → (∀ e ∈ oj.after, Region.binds md e = true → e.on ≠ i) → oi.apart ops oj = true) →
      i ∈ Region.ready md ops l → YieldsIf P ops T oi v a → ((∀ w, T w) ∨ (unl br l = true ∧ ClosedL md ops l)) → (unl br l = true → S w) → T w →
      wpAnyB P md ops Q S br fuel (l.setIfInBounds i true) (a.put oi.dst v) w → wpAnyB P md ops Q S br (fuel + 1) l a w := by
  intro fuel
  induction fuel with
  | zero =>
    intro l a w _ hr hy hu hS hw H
    refine ⟨fun h => (by rw [h] at hr; cases hr), fun j hj => ?_⟩
    by_cases hji : j = i
    · subst hji; exact hy.wpOp hi hw ⟨fun h => hS (by rwa [unl_set hib] at h), H⟩
    · have := ready_mono hj hji
      rw [H.1] at this
      cases this
  | succ fuel ih =>
    intro l a w hfree hr hy hu hS hw H
    refine ⟨fun h => (by rw [h] at hr; cases hr), fun j hj => ?_⟩
    by_cases hji : j = i
    · subst hji; exact hy.wpOp hi hw ⟨fun h => hS (by rwa [unl_set hib] at h), H⟩
    · have h1 := H.2 j (ready_mono hj hji)
      obtain ⟨hjun, oj, hoj, hall⟩ := mem_ready.1 hj
      have hnot : ∀ e ∈ oj.after, Region.binds md e = true → e.on ≠ i := fun e he hb heq => by
        have h1 := hall e he hb
        have h0 := (mem_ready.1 hr).1
        rw [heq] at h1
        rcases Nat.lt_or_ge i l.size with h' | h'
        · simp [h'] at h0 h1; rw [h0] at h1; cases h1
        · simp [Array.getElem?_eq_none h'] at h1
      have h2 := wpOp_putIf hoj (hfree j oj hoj hji hjun hnot) (fun cs b => hsel i oi cs b hi) (fun cs b => hsel j oj cs b hoj) hQ hy h1
      have hfree' : ∀ k ok, ops[k]? = some ok → k ≠ i → (l.setIfInBounds j true).getD k true = false →
          (∀ e ∈ ok.after, Region.binds md e = true → e.on ≠ i) → oi.apart ops ok = true := fun k ok hk hki hun hno => by
        refine hfree k ok hk hki ?_ hno
        by_cases hjk : j = k
        · subst hjk; exact hjun
        · rw [getD_set_ne true hjk] at hun; exact hun
      have hu' : (∀ w, T w) ∨ (unl br (l.setIfInBounds j true) = true ∧ ClosedL md ops (l.setIfInBounds j true)) := by
        rcases hT with hT | ⟨_, hT⟩
        · exact .inl hT
        · rcases hu with hu | ⟨hu, hc⟩
          · exact .inl hu
          · refine .inr ⟨?_, hc.set hj⟩
            rw [unl_set]
            · exact hu
            · intro hjb
              have h1 := dep_spec hc _ j oj hoj hall (List.all_eq_true.1 hT j hjb)
              have h0 := (mem_ready.1 hr).1
              rcases Nat.lt_or_ge i l.size with h' | h'
              · simp [h'] at h0 h1; rw [h0] at h1; cases h1
              · simp [Array.getElem?_eq_none h'] at h1
      refine wpOp_mono (fun a' w' h3 => ?_) h2
      have hs' : unl br (l.setIfInBounds j true) = true → S w' := fun h => h3.2.1 (by
        rw [Array.setIfInBounds_comm _ _ (Ne.symm hji), unl_set hib]; exact h)
      refine ⟨hs', ih (l.setIfInBounds j true) a' w' hfree' (ready_mono hr (Ne.symm hji)) h3.1 hu' hs' ?_ ?_⟩
      · rcases hu' with h | h
        · exact h w'
        · rcases hT with hT | hT
          · exact hT w'
          · exact hT.1 w' (hs' h.1)
      · rw [Array.setIfInBounds_comm _ _ hji]
        exact h3.2.2
/-- number i is taken first, whatever the world -/
theorem wpAnyB_pure {i : Nat} {oi : Oper} {v : Value} {fuel : Nat} {l : Array Bool} {a : Act} {w : World} (hi : ops[i]? = some oi) (hib : br.contains i = false)
    (hs : Region.noSelect ops = true) (hf : Region.free md ops l i = true) (hr : (Region.ready md ops l).contains i = true)
    (hQ : ∀ c a w, Q (.panic c) (a.put oi.dst v) w → Q (.panic c) a w) (hy : YieldsIf P ops (fun _ => True) oi v a) (hS : unl br l = true → S w)
    (h : wpAnyB P md ops Q S br fuel (l.setIfInBounds i true) (a.put oi.dst v) w) : wpAnyB P md ops Q S br (fuel + 1) l a w :=
  wpAnyB_first hi (fun hm => by rw [List.contains_iff_mem.2 hm] at hib; cases hib) (Region.noSelect_spec hs) hQ (.inl fun _ => trivial) fuel l a w (Region.free_spec hi hf) (by simpa using hr) hy (.inl fun _ => trivial) hS trivial h
/-- number i is taken first, of a world that meets S -/
theorem wpAnyB_take {i : Nat} {oi : Oper} {v : Value} {fuel : Nat} {l : Array Bool} {a : Act} {w : World} (hi : ops[i]? = some oi) (hib : br.contains i = false) (hu : unl br l = true) (hcl : closedB md ops l = true) (hwt : waitB md ops br i = true)
    (hs : Region.noSelect ops = true) (hf : Region.free md ops l i = true) (hr : (Region.ready md ops l).contains i = true)
    (hQ : ∀ c a w, Q (.panic c) (a.put oi.dst v) w → Q (.panic c) a w) (hy : YieldsIf P ops S oi v a) (hS : S w)
    (h : wpAnyB P md ops Q S br fuel (l.setIfInBounds i true) (a.put oi.dst v) w) : wpAnyB P md ops Q S br (fuel + 1) l a w :=
  wpAnyB_first hi (fun hm => by rw [List.contains_iff_mem.2 hm] at hib; cases hib) (Region.noSelect_spec hs) hQ (.inr ⟨fun _ h => h, hwt⟩) fuel l a w (Region.free_spec hi hf) (by simpa using hr) hy (.inr ⟨hu, closedB_spec hcl⟩) (fun _ => hS) hS h
/-- each of rs comes up next -/
def AllReadyB (P : Program) (md : Region.Mode) (ops : Array Oper) (Q : Exit → Act → World → Prop) (S : World → Prop) (br : List Nat) (fuel : Nat) (l : Array Bool) (a : Act) (w : World) (rs : List Nat) : Prop :=
  ∀ i ∈ rs, wpOp P ops Q i (fun a' w' => (unl br (l.setIfInBounds i true) = true → S w') ∧ wpAnyB P md ops Q S br fuel (l.setIfInBounds i true) a' w') a w
theorem AllReadyB.nil {fuel : Nat} {l : Array Bool} {a : Act} {w : World} : AllReadyB P md ops Q S br fuel l a w [] := fun _ h => by cases h
/-- it comes up while br waits: S is to be shown behind it -/
theorem AllReadyB.cons {fuel : Nat} {l : Array Bool} {a : Act} {w : World} {i : Nat} {o : Oper} {rs : List Nat} (ho : ops[i]? = some o)
    (h : ∀ K' : Act → World → Prop, Shut (∀ a w, S w → (S w → wpAnyB P md ops Q S br fuel (l.setIfInBounds i true) a w) → K' a w) → if Region.wanted o (yielded ops a.tmps) = true then Oper.wp P o a w K' Q else K' (a.put o.dst undef) w)
    (hs : AllReadyB P md ops Q S br fuel l a w rs) : AllReadyB P md ops Q S br fuel l a w (i :: rs) := fun j hj => by
  rcases List.mem_cons.1 hj with rfl | hj
  · exact wpOp_step ho (fun K' hK => h K' (fun a w hS hW => hK a w ⟨fun _ => hS, hW hS⟩))
  · exact hs j hj
/-- one of br has come up, or this is one: nothing is to be shown behind it -/
theorem AllReadyB.last {fuel : Nat} {l : Array Bool} {a : Act} {w : World} {i : Nat} {o : Oper} {rs : List Nat} (ho : ops[i]? = some o) (hu : unl br (l.setIfInBounds i true) = false)
    (h : ∀ K' : Act → World → Prop, Shut (∀ a w, wpAnyB P md ops Q S br fuel (l.setIfInBounds i true) a w → K' a w) → if Region.wanted o (yielded ops a.tmps) = true then Oper.wp P o a w K' Q else K' (a.put o.dst undef) w)
    (hs : AllReadyB P md ops Q S br fuel l a w rs) : AllReadyB P md ops Q S br fuel l a w (i :: rs) := fun j hj => by
  rcases List.mem_cons.1 hj with rfl | hj
  · exact wpOp_step ho (fun K' hK => h K' (fun a w hW => hK a w ⟨(fun e => by rw [hu] at e; exact absurd e (by decide)), hW⟩))
  · exact hs j hj
theorem wpAnyB_ready {rs : List Nat} {fuel : Nat} {l : Array Bool} {a : Act} {w : World} (hr : Region.ready md ops l = rs) (hne : rs ≠ []) (h : AllReadyB P md ops Q S br fuel l a w rs) : wpAnyB P md ops Q S br (fuel + 1) l a w :=
  ⟨fun h0 => absurd (hr ▸ h0) hne, hr ▸ h⟩
theorem wpAnyB_done {l : Array Bool} {a : Act} {w : World} (hr : Region.ready md ops l = []) (h : Q .normal a w) : ∀ fuel, wpAnyB P md ops Q S br fuel l a w
  | 0 => ⟨hr, h⟩
  | _ + 1 => ⟨fun _ => h, by rw [hr]; simp⟩
theorem wp_region_B {id : Nat} {a : Act} {w : World} (br : List Nat) (hm : P.follows .mixedOrders = true) (hS : S w.drew)
    (h : S w.drew → wpAnyB P .any ops Q S br ops.size (Array.replicate ops.size false) a w.drew) : (Code.region id ops true).wp P Q a w :=
  wp_region_any hm (wpAny_of_B _ _ _ _ (h hS))
end
end Go.Proofs.YtdmbcjckgfjcaaaGreatDoor
/- A region that draws its order, walked operation by operation: the operation itself is read off the region; what stands behind a guard that is not met goes at once. -/
namespace Go.Proofs.YtdmbcjckgfjcaaaGreatDoor

theorem drop_at {α : Type} {l : Array α} {i : Nat} {x : α} {xs : List α} (h : l.toList.drop i = x :: xs) : l[i]? = some x := by
  have := List.head?_drop (l := l.toList) (i := i)
  rw [h] at this
  simpa using this.symm
section
variable {P : Program} {md : Region.Mode} {ops : Array Oper} {Q : Exit → Act → World → Prop} {S : World → Prop}
/-- number i is taken first, of a world that meets S -/
theorem tk (i : Nat) {oi : Oper} {rest : List Oper} {v : Value} {fuel : Nat} {l : Array Bool} {a b : Act} {w : World} (h : wpAnyH P md ops Q S fuel (l.setIfInBounds i true) b w) (hi : ops.toList.drop i = oi :: rest := by rfl)
    (hs : Region.noSelect ops = true := by kernel_rfl) (hf : Region.free md ops l i = true := by kernel_rfl) (hr : (Region.ready md ops l).contains i = true := by kernel_rfl)
    (hQ : ∀ c a w, Q (.panic c) (a.put oi.dst v) w → Q (.panic c) a w := by exact fun _ _ _ h => h) (hw : Region.wanted oi (yielded ops a.tmps) = true := by rfl)
    (hy : ∀ w_, S w_ → (execOp a.eval oi).run P w_ = .ok (.value v) w_ := by intro w_ hSw; (try dsimp only at hSw); go_simp; (try with_reducible rfl)) (hS : S w := by assumption)
    (hb : a.put oi.dst v = b := by (try simp only [Act.put, List.setIfInBounds_toArray, List.set_cons_zero, List.set_cons_succ]); (try with_reducible rfl)) : wpAnyH P md ops Q S (fuel + 1) l a w :=
  wpAnyH_take (drop_at (l := ops) hi) hs hf hr hQ (.inl ⟨hw, hy⟩) hS (hb ▸ h)
/-- number i's guard is not met -/
theorem tu (i : Nat) {oi : Oper} {rest : List Oper} {fuel : Nat} {l : Array Bool} {a b : Act} {w : World} (h : wpAnyH P md ops Q S fuel (l.setIfInBounds i true) b w) (hi : ops.toList.drop i = oi :: rest := by rfl)
    (hs : Region.noSelect ops = true := by kernel_rfl) (hf : Region.free md ops l i = true := by kernel_rfl) (hr : (Region.ready md ops l).contains i = true := by kernel_rfl)
    (hQ : ∀ c a w, Q (.panic c) (a.put oi.dst undef) w → Q (.panic c) a w := by exact fun _ _ _ h => h) (hw : Region.wanted oi (yielded ops a.tmps) = false := by rfl) (hS : S w := by assumption)
    (hb : a.put oi.dst undef = b := by (try simp only [Act.put, List.setIfInBounds_toArray, List.set_cons_zero, List.set_cons_succ]); (try with_reducible rfl)) : wpAnyH P md ops Q S (fuel + 1) l a w :=
  wpAnyH_take (drop_at (l := ops) hi) hs hf hr hQ (.inr ⟨hw, rfl⟩) hS (hb ▸ h)
/-- the same where br waits (core/XOrdersB) -/
theorem tp {br : List Nat} (i : Nat) {oi : Oper} {rest : List Oper} {v : Value} {fuel : Nat} {l : Array Bool} {a b : Act} {w : World} (h : wpAnyB P md ops Q S br fuel (l.setIfInBounds i true) b w) (hi : ops.toList.drop i = oi :: rest := by rfl) (hib : br.contains i = false := by kernel_rfl)
    (hs : Region.noSelect ops = true := by kernel_rfl) (hf : Region.free md ops l i = true := by kernel_rfl) (hr : (Region.ready md ops l).contains i = true := by kernel_rfl)
    (hQ : ∀ c a w, Q (.panic c) (a.put oi.dst v) w → Q (.panic c) a w := by exact fun _ _ _ h => h) (hw : Region.wanted oi (yielded ops a.tmps) = true := by rfl)
    (hy : ∀ w_, (fun _ : World => True) w_ → (execOp a.eval oi).run P w_ = .ok (.value v) w_ := by intro w_ hSw; (try dsimp only at hSw); go_simp; (try with_reducible rfl)) (hS : S w := by assumption)
    (hb : a.put oi.dst v = b := by (try simp only [Act.put, List.setIfInBounds_toArray, List.set_cons_zero, List.set_cons_succ]); (try with_reducible rfl)) : wpAnyB P md ops Q S br (fuel + 1) l a w :=
  wpAnyB_pure (drop_at (l := ops) hi) hib hs hf hr hQ (.inl ⟨hw, hy⟩) (fun _ => hS) (hb ▸ h)
theorem tq {br : List Nat} (i : Nat) {oi : Oper} {rest : List Oper} {v : Value} {fuel : Nat} {l : Array Bool} {a b : Act} {w : World} (h : wpAnyB P md ops Q S br fuel (l.setIfInBounds i true) b w) (hi : ops.toList.drop i = oi :: rest := by rfl) (hib : br.contains i = false := by kernel_rfl)
    (hs : Region.noSelect ops = true := by kernel_rfl) (hf : Region.free md ops l i = true := by kernel_rfl) (hr : (Region.ready md ops l).contains i = true := by kernel_rfl)
    (hQ : ∀ c a w, Q (.panic c) (a.put oi.dst v) w → Q (.panic c) a w := by exact fun _ _ _ h => h) (hw : Region.wanted oi (yielded ops a.tmps) = true := by rfl)
    (hy : ∀ w_, (fun _ : World => True) w_ → (execOp a.eval oi).run P w_ = .ok (.value v) w_ := by intro w_ hSw; (try dsimp only at hSw); go_simp; (try with_reducible rfl)) (hu : unl br l = false := by kernel_rfl)
    (hb : a.put oi.dst v = b := by (try simp only [Act.put, List.setIfInBounds_toArray, List.set_cons_zero, List.set_cons_succ]); (try with_reducible rfl)) : wpAnyB P md ops Q S br (fuel + 1) l a w :=
  wpAnyB_pure (drop_at (l := ops) hi) hib hs hf hr hQ (.inl ⟨hw, hy⟩) (fun e => Bool.noConfusion (hu.symm.trans e)) (hb ▸ h)
theorem tb {br : List Nat} (i : Nat) {oi : Oper} {rest : List Oper} {v : Value} {fuel : Nat} {l : Array Bool} {a b : Act} {w : World} (h : wpAnyB P md ops Q S br fuel (l.setIfInBounds i true) b w) (hi : ops.toList.drop i = oi :: rest := by rfl) (hib : br.contains i = false := by kernel_rfl)
    (hu : unl br l = true := by kernel_rfl) (hcl : closedB md ops l = true := by kernel_rfl) (hwt : waitB md ops br i = true := by kernel_rfl)
    (hs : Region.noSelect ops = true := by kernel_rfl) (hf : Region.free md ops l i = true := by kernel_rfl) (hr : (Region.ready md ops l).contains i = true := by kernel_rfl)
    (hQ : ∀ c a w, Q (.panic c) (a.put oi.dst v) w → Q (.panic c) a w := by exact fun _ _ _ h => h) (hw : Region.wanted oi (yielded ops a.tmps) = true := by rfl)
    (hy : ∀ w_, S w_ → (execOp a.eval oi).run P w_ = .ok (.value v) w_ := by intro w_ hSw; (try dsimp only at hSw); go_simp; (try with_reducible rfl)) (hS : S w := by assumption)
    (hb : a.put oi.dst v = b := by (try simp only [Act.put, List.setIfInBounds_toArray, List.set_cons_zero, List.set_cons_succ]); (try with_reducible rfl)) : wpAnyB P md ops Q S br (fuel + 1) l a w :=
  wpAnyB_take (drop_at (l := ops) hi) hib hu hcl hwt hs hf hr hQ (.inl ⟨hw, hy⟩) hS (hb ▸ h)
/-- may these go one behind another, their guards not met? -/
def skipsH (md : Region.Mode) (ops : Array Oper) : List Nat → List (Option Nat) → Array Bool → Act → Bool
  | [], [], _, _ => true
  | i :: is, d :: ds, l, a => match ops[i]? with
    | none => false
    | some oi => oi.dst == d && (Region.free md ops l i && ((Region.ready md ops l).contains i && (!Region.wanted oi (yielded ops a.tmps) && skipsH md ops is ds (l.setIfInBounds i true) (a.put d undef))))
  | _, _, _, _ => false
def listH (l : Array Bool) (is : List Nat) : Array Bool := is.foldl (fun l i => l.setIfInBounds i true) l
def putsH (a : Act) (ds : List (Option Nat)) : Act := ds.foldl (fun a d => a.put d undef) a
theorem skips_go (hs : Region.noSelect ops = true) (hQ : ∀ c (a : Act) d w, Q (.panic c) (a.put d undef) w → Q (.panic c) a w) {w : World} (hS : S w) {fuel : Nat} :
    ∀ (is : List Nat) (ds : List (Option Nat)) (l : Array Bool) (a : Act), skipsH md ops is ds l a = true → wpAnyH P md ops Q S fuel (listH l is) (putsH a ds) w → wpAnyH P md ops Q S (fuel + is.length) l a w
  | [], [], _, _, _, h => h
  | i :: is, d :: ds, l, a, hk, h => by
    rw [skipsH] at hk
    split at hk
    · cases hk
    · rename_i oi hi
      simp only [Bool.and_eq_true, beq_iff_eq, Bool.not_eq_true'] at hk
      obtain ⟨rfl, h1, h2, h3, h4⟩ := hk
      exact wpAnyH_take (fuel := fuel + is.length) hi hs h1 h2 (fun c a w => hQ c a _ w) (.inr ⟨h3, rfl⟩) hS (skips_go hs hQ hS is ds _ _ h4 h)
  | [], _ :: _, _, _, hk, _ => by cases hk
  | _ :: _, [], _, _, hk, _ => by cases hk
/-- all these at once -/
theorem ts (m : Nat) (is : List Nat) (ds : List (Option Nat)) {F : Nat} {l : Array Bool} {a b : Act} {w : World} (hm : is.length = m := by rfl) (hF : m ≤ F := by decide)
    (hs : Region.noSelect ops = true := by kernel_rfl) (hk : skipsH md ops is ds l a = true := by kernel_rfl)
    (hQ : ∀ c (a : Act) d w, Q (.panic c) (a.put d undef) w → Q (.panic c) a w := by exact fun _ _ _ _ h => h) (hS : S w := by assumption)
    (hb : putsH a ds = b := by (try simp only [putsH, List.foldl_cons, List.foldl_nil, Act.put, List.setIfInBounds_toArray, List.set_cons_zero, List.set_cons_succ]); (try with_reducible rfl))
    (h : wpAnyH P md ops Q S (F - m) (listH l is) b w) : wpAnyH P md ops Q S F l a w := by
  subst hm hb
  have := skips_go (P := P) (fuel := F - is.length) hs hQ hS is ds l a hk h
  rwa [Nat.sub_add_cancel hF] at this
/-- one may come up: number i -/
theorem r1 (i : Nat) {o : Oper} {rest : List Oper} {fuel : Nat} {l : Array Bool} {a : Act} {w : World}
    (h : ∀ K' : Act → World → Prop, Shut (∀ a w, S w → (S w → wpAnyH P md ops Q S fuel (l.setIfInBounds i true) a w) → K' a w) → if Region.wanted o (yielded ops a.tmps) = true then Oper.wp P o a w K' Q else K' (a.put o.dst undef) w)
    (ho : ops.toList.drop i = o :: rest := by rfl) (hr : Region.ready md ops l = [i] := by kernel_rfl) : wpAnyH P md ops Q S (fuel + 1) l a w :=
  wpAnyH_ready hr (by simp) (AllReadyH.cons (drop_at (l := ops) ho) h AllReadyH.nil)
theorem rb1 {br : List Nat} (i : Nat) {o : Oper} {rest : List Oper} {fuel : Nat} {l : Array Bool} {a : Act} {w : World}
    (h : ∀ K' : Act → World → Prop, Shut (∀ a w, S w → (S w → wpAnyB P md ops Q S br fuel (l.setIfInBounds i true) a w) → K' a w) → if Region.wanted o (yielded ops a.tmps) = true then Oper.wp P o a w K' Q else K' (a.put o.dst undef) w)
    (ho : ops.toList.drop i = o :: rest := by rfl) (hr : Region.ready md ops l = [i] := by kernel_rfl) : wpAnyB P md ops Q S br (fuel + 1) l a w :=
  wpAnyB_ready hr (by simp) (AllReadyB.cons (drop_at (l := ops) ho) h AllReadyB.nil)
theorem rb2 {br : List Nat} (i j : Nat) {o o2 : Oper} {rest rest2 : List Oper} {fuel : Nat} {l : Array Bool} {a : Act} {w : World}
    (h : ∀ K' : Act → World → Prop, Shut (∀ a w, S w → (S w → wpAnyB P md ops Q S br fuel (l.setIfInBounds i true) a w) → K' a w) → if Region.wanted o (yielded ops a.tmps) = true then Oper.wp P o a w K' Q else K' (a.put o.dst undef) w)
    (h2 : ∀ K' : Act → World → Prop, Shut (∀ a w, S w → (S w → wpAnyB P md ops Q S br fuel (l.setIfInBounds j true) a w) → K' a w) → if Region.wanted o2 (yielded ops a.tmps) = true then Oper.wp P o2 a w K' Q else K' (a.put o2.dst undef) w)
    (ho : ops.toList.drop i = o :: rest := by rfl) (ho2 : ops.toList.drop j = o2 :: rest2 := by rfl) (hr : Region.ready md ops l = [i, j] := by kernel_rfl) : wpAnyB P md ops Q S br (fuel + 1) l a w :=
  wpAnyB_ready hr (by simp) (AllReadyB.cons (drop_at (l := ops) ho) h (AllReadyB.cons (drop_at (l := ops) ho2) h2 AllReadyB.nil))
end
theorem lA {α : Type} (l : List α) (i : Nat) (a : α) : l.toArray.setIfInBounds i a = (l.set i a).toArray := List.setIfInBounds_toArray l i a
theorem lB {α : Type} {x : α} {xs : List α} {a : α} : (x :: xs).set 0 a = a :: xs := List.set_cons_zero
theorem lC {α : Type} {x : α} {xs : List α} {n : Nat} {a : α} : (x :: xs).set (n + 1) a = x :: xs.set n a := List.set_cons_succ
/-- an effect has come up: on from there -/
theorem go_ {S : World → Prop} {R K : Act → World → Prop} (hK : Shut (∀ a w, S w → (S w → R a w) → K a w)) {a b : Act} {w : World} (hS : S w) (h : S w → R b w) (hb : a = b := by (try simp only [Act.put, lA, lB, lC]); (try with_reducible rfl)) : K a w := by
  subst hb; exact hK.out _ _ hS h
/-- fourteen cells of a block -/
abbrev PC (w : World) (B : Nat) (v0 v1 v2 v3 v4 v5 v6 v7 v8 v9 va vb vc vd : Value) : Prop := w.cell? ⟨B, 0, none⟩ = some v0 ∧ w.cell? ⟨B, 1, none⟩ = some v1 ∧ w.cell? ⟨B, 2, none⟩ = some v2 ∧ w.cell? ⟨B, 3, none⟩ = some v3 ∧ w.cell? ⟨B, 4, none⟩ = some v4 ∧ w.cell? ⟨B, 5, none⟩ = some v5 ∧ w.cell? ⟨B, 6, none⟩ = some v6 ∧
  w.cell? ⟨B, 7, none⟩ = some v7 ∧ w.cell? ⟨B, 8, none⟩ = some v8 ∧ w.cell? ⟨B, 9, none⟩ = some v9 ∧ w.cell? ⟨B, 10, none⟩ = some va ∧ w.cell? ⟨B, 11, none⟩ = some vb ∧ w.cell? ⟨B, 12, none⟩ = some vc ∧ w.cell? ⟨B, 13, none⟩ = some vd
end Go.Proofs.YtdmbcjckgfjcaaaGreatDoor
/- Layer set: the set of a list, one behind another. -/
namespace Go.Proofs.YtdmbcjckgfjcaaaGreatDoor
theorem ofF_snoc (l : List Int) (k : Nat) (h : k < l.length) : ofF (l.take (k + 1)) = addF (ofF (l.take k)) l[k] := by
  rw [List.take_succ_eq_append_getElem h, ofF, List.foldl_append]; rfl
end Go.Proofs.YtdmbcjckgfjcaaaGreatDoor
