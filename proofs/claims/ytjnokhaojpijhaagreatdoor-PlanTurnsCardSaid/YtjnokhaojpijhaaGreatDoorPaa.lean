import Derived.Lib.TrailingZeros
import Derived.Lib.ItoaNum
import Derived.Lib.AtoiAllCases
import Derived.Lib.SplitLaws
import Derived.Lib.AtoiAll
import Derived.Lib.IndexLaws
import Derived.Lib.Bytealg
import Derived.TacticsIn
import Derived.OrdersIn
/- Layer set: plain facts on sets as numbers (bits), their lists, their texts. No program in this text. -/
namespace Go.Proofs.YtjnokhaojpijhaaGreatDoor
def onlyF (o : Int) : Nat := if 1 ≤ o ∧ o ≤ 64 then 2 ^ (o - 1).toNat else 0
def addF (s : Nat) (o : Int) : Nat := s ||| onlyF o
def hasF (s : Nat) (o : Int) : Bool := decide (1 ≤ o) && (decide (o ≤ 64) && s.testBit (o - 1).toNat)
/-- the objects of a set, rising -/
def objs (s : Nat) : List Int := ((List.range 64).filter fun i => s.testBit i).map fun (i : Nat) => (i : Int) + 1
def ofF (l : List Int) : Nat := l.foldl addF 0
def underF (a b : Nat) : Bool := decide (a &&& (18446744073709551615 - b) = 0)
def firstF (n : Int) : Nat := 2 ^ (min (max n 0) 64).toNat - 1
theorem p64 : (2 : Nat) ^ 64 = 18446744073709551616 := by decide
theorem onlyF_lt (o : Int) : onlyF o < 18446744073709551616 := by
  unfold onlyF
  split
  · rw [← p64]; exact Nat.pow_lt_pow_right (by decide) (by omega)
  · decide
theorem testBit_only (o : Int) (i : Nat) : (onlyF o).testBit i = decide ((i : Int) + 1 = o ∧ i < 64) := by
  unfold onlyF
  split
  · rw [Nat.testBit_two_pow]
    congr 1
    apply propext
    constructor
    · intro h; omega
    · intro h; omega
  · rw [Nat.zero_testBit]
    symm
    rw [decide_eq_false_iff_not]
    omega
theorem testBit_not (x i : Nat) (hx : x < 18446744073709551616) : (18446744073709551615 - x).testBit i = (decide (i < 64) && !x.testBit i) := by
  have := Nat.testBit_two_pow_sub_succ (x := x) (n := 64) (by rw [p64]; exact hx) i
  rw [p64] at this
  rw [← this]
  congr 1
  omega
theorem testBit_add (s : Nat) (o : Int) (i : Nat) : (addF s o).testBit i = (s.testBit i || decide ((i : Int) + 1 = o ∧ i < 64)) := by
  rw [addF, Nat.testBit_or, testBit_only]
theorem testBit_high {s i : Nat} (hs : s < 18446744073709551616) (h : s.testBit i = true) : i < 64 := by
  apply Nat.lt_of_not_le
  intro hle
  rw [Nat.testBit_lt_two_pow (Nat.lt_of_lt_of_le (by rw [← p64] at hs; exact hs) (Nat.pow_le_pow_right (by decide) hle))] at h
  cases h
theorem add_lt {s : Nat} (hs : s < 18446744073709551616) (o : Int) : addF s o < 18446744073709551616 := by
  have := onlyF_lt o
  rw [← p64] at *
  exact Nat.or_lt_two_pow hs this
theorem has_bit (s : Nat) (i : Nat) (hi : i < 64) : hasF s ((i : Int) + 1) = s.testBit i := by
  unfold hasF
  rw [decide_eq_true (by omega : 1 ≤ (i : Int) + 1), decide_eq_true (by omega : (i : Int) + 1 ≤ 64), show ((i : Int) + 1 - 1).toNat = i by omega]
  simp
theorem has_no (s : Nat) (o : Int) (h : ¬ (1 ≤ o ∧ o ≤ 64)) : hasF s o = false := by
  unfold hasF
  by_cases h1 : 1 ≤ o
  · rw [decide_eq_false (by omega : ¬ o ≤ 64)]; simp
  · rw [decide_eq_false h1]; simp
/-- two sets are one, if they have the same objects -/
theorem set_ext {a b : Nat} (ha : a < 18446744073709551616) (hb : b < 18446744073709551616) (h : ∀ i, i < 64 → a.testBit i = b.testBit i) : a = b := by
  apply Nat.eq_of_testBit_eq
  intro i
  by_cases hi : i < 64
  · exact h i hi
  · have e : ∀ x, x < 18446744073709551616 → x.testBit i = false := fun x hx => by
      cases hb : x.testBit i with
      | false => rfl
      | true => exact absurd (testBit_high hx hb) hi
    rw [e a ha, e b hb]
theorem mem_objs {s : Nat} {o : Int} : o ∈ objs s ↔ hasF s o = true := by
  unfold objs
  rw [List.mem_map]
  constructor
  · rintro ⟨i, hi, rfl⟩
    rw [List.mem_filter, List.mem_range] at hi
    rw [has_bit _ _ hi.1]; exact hi.2
  · intro h
    by_cases ho : 1 ≤ o ∧ o ≤ 64
    · obtain ⟨i, rfl⟩ : ∃ i : Nat, o = (i : Int) + 1 := ⟨(o - 1).toNat, by omega⟩
      rw [has_bit _ _ (by omega)] at h
      exact ⟨i, List.mem_filter.2 ⟨List.mem_range.2 (by omega), h⟩, rfl⟩
    · rw [has_no _ _ ho] at h; cases h
theorem objs_rng {s : Nat} {o : Int} (h : o ∈ objs s) : 1 ≤ o ∧ o ≤ 64 := by
  apply Decidable.byContradiction
  intro ho
  rw [mem_objs, has_no _ _ ho] at h; cases h
theorem objs_zero : objs 0 = [] := by
  unfold objs
  rw [List.filter_eq_nil_iff.2 (fun i _ => by rw [Nat.zero_testBit]; decide)]; rfl
theorem objs_len (s : Nat) : (objs s).length ≤ 64 := by
  unfold objs
  rw [List.length_map]
  have := List.length_filter_le (fun i => s.testBit i) (List.range 64)
  rwa [List.length_range] at this
/-- the lowest object comes first; what is left lists the rest -/
theorem low_step {s : Nat} (h0 : s ≠ 0) (hs : s < 18446744073709551616) :
    Go.Lib.ctz 64 s < 64 ∧ s.testBit (Go.Lib.ctz 64 s) = true ∧ (∀ i, i < Go.Lib.ctz 64 s → s.testBit i = false) ∧ ∀ i, (s &&& (s - 1)).testBit i = (s.testBit i && decide (i ≠ Go.Lib.ctz 64 s)) := by
  obtain ⟨m, hm, hk⟩ := Go.Lib.ctzFrom_spec 64 s (by omega) (by rw [p64]; exact hs)
  have e : Go.Lib.ctz 64 s = Go.Lib.ctzFrom 64 s := by unfold Go.Lib.ctz; rw [if_neg h0]
  rw [e]
  generalize Go.Lib.ctzFrom 64 s = k at *
  have hb : ∀ i, s.testBit i = (decide (k ≤ i) && (2 * m + 1).testBit (i - k)) := fun i => by
    rw [hm, Nat.mul_comm, Nat.testBit_mul_two_pow]
  have h1 : s - 1 = 2 ^ k * (2 * m) + (2 ^ k - 1) := by
    have : 0 < 2 ^ k := Nat.two_pow_pos k
    rw [hm, Nat.mul_add, Nat.mul_one]; omega
  have hb1 : ∀ i, (s - 1).testBit i = if i < k then true else (2 * m).testBit (i - k) := fun i => by
    have hlt : 2 ^ k - 1 < 2 ^ k := by have : 0 < 2 ^ k := Nat.two_pow_pos k; omega
    rw [h1, Nat.testBit_two_pow_mul_add _ hlt]
    split
    · rw [Nat.testBit_two_pow_sub_one]; simp [*]
    · rfl
  refine ⟨hk, ?_, ?_, ?_⟩
  · rw [hb]; simp
  · intro i hi; rw [hb, decide_eq_false (by omega)]; rfl
  · intro i
    rw [Nat.testBit_and, hb1, hb]
    by_cases hi : i < k
    · rw [decide_eq_false (by omega : ¬ k ≤ i)]; rfl
    · rw [if_neg hi, decide_eq_true (by omega : k ≤ i)]
      by_cases hik : i = k
      · subst hik; simp
      · obtain ⟨j, rfl⟩ : ∃ j, i = k + (j + 1) := ⟨i - k - 1, by omega⟩
        rw [decide_eq_true hik, show k + (j + 1) - k = j + 1 by omega, Nat.testBit_succ, Nat.testBit_succ, show (2 * m + 1) / 2 = m by omega, show 2 * m / 2 = m by omega]
        cases m.testBit j <;> rfl
theorem filter_split (p : Nat → Bool) (k n : Nat) (hk : k < n) (hp : p k = true) (hlow : ∀ i, i < k → p i = false) :
    (List.range n).filter p = k :: (List.range n).filter fun i => p i && decide (i ≠ k) := by
  obtain ⟨d, rfl⟩ : ∃ d, n = (k + 1) + d := ⟨n - (k + 1), by omega⟩
  rw [List.range_add, List.filter_append, List.filter_append, List.range_succ, List.filter_append, List.filter_append]
  have a1 : (List.range k).filter p = [] := List.filter_eq_nil_iff.2 fun i hi => by rw [hlow i (List.mem_range.1 hi)]; decide
  have a2 : ((List.range k).filter fun i => p i && decide (i ≠ k)) = [] := List.filter_eq_nil_iff.2 fun i hi => by rw [hlow i (List.mem_range.1 hi)]; simp
  rw [a1, a2]
  have a3 : ([k].filter p) = [k] := by simp [hp]
  have a4 : ([k].filter fun i => p i && decide (i ≠ k)) = [] := by simp
  rw [a3, a4]
  simp only [List.nil_append, List.singleton_append, List.cons.injEq, true_and]
  apply List.filter_congr
  intro i hi
  obtain ⟨j, _, rfl⟩ := List.mem_map.1 hi
  rw [decide_eq_true (by omega), Bool.and_true]
theorem objs_step {s : Nat} (h0 : s ≠ 0) (hs : s < 18446744073709551616) : objs s = (((Go.Lib.ctz 64 s : Nat) : Int) + 1) :: objs (s &&& (s - 1)) := by
  obtain ⟨h1, h2, h3, h4⟩ := low_step h0 hs
  unfold objs
  rw [filter_split _ _ 64 h1 h2 h3, List.map_cons]
  congr 2
  apply List.filter_congr
  intro i _
  rw [h4]
/-- what is made of a list -/
theorem foldl_bit (l : List Int) : ∀ (s : Nat) (i : Nat), i < 64 → (l.foldl addF s).testBit i = (s.testBit i || decide ((i : Int) + 1 ∈ l)) := by
  induction l with
  | nil => intro s i _; simp
  | cons o l ih =>
    intro s i hi
    rw [List.foldl_cons, ih _ _ hi, testBit_add, Bool.or_assoc]
    congr 1
    rw [Bool.eq_iff_iff]
    simp only [Bool.or_eq_true, decide_eq_true_eq, List.mem_cons]
    constructor
    · rintro (⟨h, _⟩ | h)
      · exact .inl h
      · exact .inr h
    · rintro (h | h)
      · exact .inl ⟨h, hi⟩
      · exact .inr h
theorem ofF_bit (l : List Int) (i : Nat) (hi : i < 64) : (ofF l).testBit i = decide ((i : Int) + 1 ∈ l) := by
  rw [ofF, foldl_bit l 0 i hi, Nat.zero_testBit]; rfl
theorem foldl_lt (l : List Int) : ∀ s : Nat, s < 18446744073709551616 → l.foldl addF s < 18446744073709551616 := by
  induction l with
  | nil => intro s h; exact h
  | cons o l ih => intro s h; exact ih _ (add_lt h o)
theorem ofF_lt (l : List Int) : ofF l < 18446744073709551616 := foldl_lt l 0 (by decide)
theorem has_of (l : List Int) (o : Int) : hasF (ofF l) o = (decide (1 ≤ o ∧ o ≤ 64) && decide (o ∈ l)) := by
  by_cases h : 1 ≤ o ∧ o ≤ 64
  · obtain ⟨i, rfl⟩ : ∃ i : Nat, o = (i : Int) + 1 := ⟨(o - 1).toNat, by omega⟩
    rw [has_bit _ _ (by omega), ofF_bit _ _ (by omega), decide_eq_true h, Bool.true_and]
  · rw [has_no _ _ h, decide_eq_false h]; rfl
theorem under_iff {a b : Nat} (ha : a < 18446744073709551616) (hb : b < 18446744073709551616) : underF a b = true ↔ ∀ i, i < 64 → a.testBit i = true → b.testBit i = true := by
  unfold underF
  rw [decide_eq_true_eq]
  constructor
  · intro h i hi hai
    have : (a &&& (18446744073709551615 - b)).testBit i = false := by rw [h, Nat.zero_testBit]
    rw [Nat.testBit_and, testBit_not _ _ hb, hai, decide_eq_true hi] at this
    simpa using this
  · intro h
    apply Nat.eq_of_testBit_eq
    intro i
    rw [Nat.testBit_and, testBit_not _ _ hb, Nat.zero_testBit]
    cases hai : a.testBit i with
    | false => rfl
    | true =>
      have hi := testBit_high ha hai
      rw [h i hi hai]; simp
theorem first_lt (n : Int) : firstF n < 18446744073709551616 := by
  unfold firstF
  have := Nat.pow_le_pow_right (n := 2) (by decide) (show (min (max n 0) 64).toNat ≤ 64 by omega)
  rw [p64] at this
  omega
theorem first_bit (n : Int) (i : Nat) : (firstF n).testBit i = decide ((i : Int) < n ∧ i < 64) := by
  unfold firstF
  rw [Nat.testBit_two_pow_sub_one]
  congr 1
  apply propext
  omega
theorem has_first (n o : Int) : hasF (firstF n) o = decide (1 ≤ o ∧ o ≤ 64 ∧ o ≤ n) := by
  by_cases h : 1 ≤ o ∧ o ≤ 64
  · obtain ⟨i, rfl⟩ : ∃ i : Nat, o = (i : Int) + 1 := ⟨(o - 1).toNat, by omega⟩
    rw [has_bit _ _ (by omega), first_bit]
    congr 1
    apply propext
    omega
  · rw [has_no _ _ h]
    symm; rw [decide_eq_false_iff_not]; omega
end Go.Proofs.YtjnokhaojpijhaaGreatDoor
/- Layer set: plain facts on counting bits. No program in this text. -/
namespace Go.Proofs.YtjnokhaojpijhaaGreatDoor
def val (l : List Nat) : Nat := l.foldr (fun a acc => a + 256 * acc) 0
def s1b (a : Nat) : Nat := (a / 2 &&& 85) + (a &&& 85)
def s2b (a : Nat) : Nat := (a / 4 &&& 51) + (a &&& 51)
theorem f1 : ∀ a, a < 256 → (∀ c, c < 2 → (a / 2 + 128 * c) &&& 85 = a / 2 &&& 85) ∧ s1b a < 256 := by decide +kernel
theorem f2 : ∀ a, a < 256 → (∀ c, c < 4 → (a / 4 + 64 * c) &&& 51 = a / 4 &&& 51) ∧ s2b a < 256 ∧ s2b a % 16 ≤ 4 + 2 ∧ s2b a / 16 ≤ 4 + 2 := by decide +kernel
theorem f21 : ∀ a, a < 256 → s2b (s1b a) % 16 ≤ 4 ∧ s2b (s1b a) / 16 ≤ 4 ∧ s2b (s1b a) < 256 := by decide +kernel
theorem f3 : ∀ a, a < 256 → (∀ c, c < 16 → (a / 16 + 16 * c + a) &&& 15 = (a / 16 + a) &&& 15) := by decide +kernel
end Go.Proofs.YtjnokhaojpijhaaGreatDoor
/- Layer set: plain facts on the texts of sets, and what is parsed of them. No program in this text. -/
namespace Go.Proofs.YtjnokhaojpijhaaGreatDoor
open Go.Lib (index count splitK decDigits atoiAll)
def cut (c : UInt8) : List UInt8 → List (List UInt8)
  | [] => [[]]
  | b :: l => if b = c then [] :: cut c l else match cut c l with | [] => [[b]] | p :: r => (b :: p) :: r
theorem index_skip (b c : UInt8) (l : List UInt8) (h : b ≠ c) : index (b :: l) [c] = if index l [c] == -1 then -1 else index l [c] + 1 := by
  rw [index]
  have : ([c].isPrefixOf (b :: l)) = false := by simp [List.isPrefixOf, Ne.symm h]
  rw [this]; simp
theorem splitK_cut (c : UInt8) : ∀ l : List UInt8, splitK [c] 0 (count l [c]) l = cut c l
  | [] => rfl
  | b :: l => by
    have ih := splitK_cut c l
    by_cases hb : b = c
    · subst hb
      have hi : index (b :: l) [b] = 0 := by rw [index]; simp [List.isPrefixOf]
      rw [Go.Lib.count_cons_eq, Nat.add_comm, splitK, hi, if_neg (by decide), cut, if_pos rfl, ← ih]
      rfl
    · rw [Go.Lib.count_cons_ne b c l hb, cut, if_neg hb]
      cases hk : count l [c] with
      | zero =>
        rw [hk] at ih
        rw [← ih]; rfl
      | succ k =>
        rw [hk] at ih
        have hi : index l [c] ≠ -1 := fun e => by rw [Go.Lib.count_miss e] at hk; cases hk
        have hi' : (index l [c] == -1) = false := by rw [beq_eq_false_iff_ne]; exact hi
        have hge := Go.Lib.index_ge l [c]
        obtain ⟨i, hii⟩ : ∃ i : Nat, index l [c] = i := ⟨(index l [c]).toNat, by omega⟩
        have hi2 : index (b :: l) [c] = ((i + 1 : Nat) : Int) := by rw [index_skip b c l hb, hi', hii]; simp
        have n1 : (((i + 1 : Nat) : Int) == -1) = false := by rw [beq_eq_false_iff_ne]; omega
        have n2 : (((i : Nat) : Int) == -1) = false := by rw [beq_eq_false_iff_ne]; omega
        rw [← ih, splitK, splitK, hi2, hii, n1, n2]
        simp
theorem cut_ne (c : UInt8) (l : List UInt8) : cut c l ≠ [] := by
  cases l with
  | nil => simp [cut]
  | cons b l =>
    rw [cut]
    split
    · simp
    · split <;> simp
theorem cut_pre (c : UInt8) (p l : List UInt8) (h : c ∉ p) : cut c (p ++ c :: l) = p :: cut c l := by
  induction p with
  | nil => simp [cut]
  | cons b p ih =>
    have hb : b ≠ c := fun e => h (by simp [e])
    rw [List.cons_append, cut, if_neg hb, ih fun hm => h (List.mem_cons_of_mem _ hm)]
theorem cut_all (c : UInt8) (p : List UInt8) (h : c ∉ p) : cut c p = [p] := by
  induction p with
  | nil => rfl
  | cons b p ih =>
    have hb : b ≠ c := fun e => h (by simp [e])
    rw [cut, if_neg hb, ih fun hm => h (List.mem_cons_of_mem _ hm)]
/-- an object's digits -/
def dig (o : Int) : List UInt8 := if o < 10 then [UInt8.ofNat (48 + o.toNat)] else [UInt8.ofNat (48 + o.toNat / 10), UInt8.ofNat (48 + o.toNat % 10)]
def txStep (t : List UInt8) (o : Int) : List UInt8 := (if t = [] then [] else t ++ [44]) ++ dig o
def textL (l : List Int) : List UInt8 := l.foldl txStep []
def textF (s : Nat) : List UInt8 := if s = 0 then [45] else textL (objs s)
theorem dig_dec (n : Nat) (h : n < 100) : decDigits n = dig n := by
  unfold dig
  by_cases h10 : n < 10
  · rw [if_pos (by omega), Go.Lib.decDigits_one h10]; rfl
  · rw [if_neg (by omega), Go.Lib.decDigits_two h10 h]; rfl
theorem dig_ne (o : Int) : dig o ≠ [] := by unfold dig; split <;> simp
theorem dig_len (o : Int) : (dig o).length = if o < 10 then 1 else 2 := by unfold dig; split <;> rfl
theorem txStep_ne (t : List UInt8) (o : Int) : txStep t o ≠ [] := by unfold txStep; have := dig_ne o; simp [this]
theorem foldl_tx (l : List Int) : ∀ t : List UInt8, t ≠ [] → l.foldl txStep t = t ++ l.flatMap fun o => 44 :: dig o := by
  induction l with
  | nil => intro t _; simp
  | cons o l ih => intro t ht; rw [List.foldl_cons, ih _ (txStep_ne t o), txStep, if_neg ht]; simp
theorem textL_cons (o : Int) (l : List Int) : textL (o :: l) = dig o ++ l.flatMap fun o => 44 :: dig o := by
  unfold textL
  rw [List.foldl_cons, foldl_tx _ _ (txStep_ne _ _)]; simp [txStep]
theorem textL_snoc (l : List Int) (o : Int) : textL (l ++ [o]) = txStep (textL l) o := by unfold textL; rw [List.foldl_append]; rfl
/-- what strconv.Atoi gives of a part; 0 for what is no number -/
def atoi0 (p : List UInt8) : Int := match atoiAll p with | .ok v => v | _ => 0
def numsF (t : List UInt8) : List Int := (cut 44 t).map atoi0
def parseFSt (t : List UInt8) : Nat × Int := if 182 < t.length then (0, 2) else if textF (ofF (numsF t)) = t then (ofF (numsF t), 0) else (0, 2)
/-- lengths -/
theorem tx_len : ∀ (l : List Int), (l.flatMap fun o => 44 :: dig o).length = (l.map fun o => (if o < 10 then 2 else 3)).sum
  | [] => rfl
  | o :: l => by
    rw [List.flatMap_cons, List.length_append, tx_len l, List.map_cons, List.sum_cons, List.length_cons, dig_len]
    split <;> omega
theorem sum_filter (f : Nat → Nat) (p : Nat → Bool) : ∀ l : List Nat, ((l.filter p).map f).sum ≤ (l.map f).sum
  | [] => by simp
  | a :: l => by
    have := sum_filter f p l
    rw [List.filter_cons]
    split
    · simp only [List.map_cons, List.sum_cons]; omega
    · simp only [List.map_cons, List.sum_cons]; omega
theorem text_lenSt (s : Nat) : (textF s).length ≤ 182 := by
  unfold textF
  split
  · decide
  · cases ho : objs s with
    | nil => decide
    | cons o l =>
      have h1 := tx_len (objs s)
      have h2 : ((objs s).map fun o => (if o < 10 then 2 else 3)).sum ≤ 183 := by
        unfold objs
        rw [List.map_map]
        refine Nat.le_trans (sum_filter _ _ _) ?_
        decide +kernel
      rw [ho, List.flatMap_cons, List.length_append, List.length_cons] at h1
      rw [ho] at h2
      rw [textL_cons, List.length_append]
      omega
theorem full_text : (textF (firstF 64)).length = 182 := by decide +kernel
theorem parse_lt (t : List UInt8) : (parseFSt t).1 < 18446744073709551616 := by
  unfold parseFSt
  split
  · decide
  · split
    · exact ofF_lt _
    · decide
theorem parse_cases (t : List UInt8) : ((parseFSt t).2 = 0 ∧ textF (parseFSt t).1 = t) ∨ ((parseFSt t).2 = 2 ∧ (parseFSt t).1 = 0) := by
  unfold parseFSt
  split
  · exact .inr ⟨rfl, rfl⟩
  · split
    · exact .inl ⟨rfl, by assumption⟩
    · exact .inr ⟨rfl, rfl⟩
end Go.Proofs.YtjnokhaojpijhaaGreatDoor
/- Layer code: what the chapter asks, as plain functions, and what follows. No program in this text. -/
namespace Go.Proofs.YtjnokhaojpijhaaGreatDoor
structure Oq where
  kind : Int
  r : Int
  a : Int
  s : Int
deriving DecidableEq
def cRight (o : Oq) (regs slots : Int) : Bool :=
  decide (0 ≤ o.r ∧ o.r < min regs 4 ∧ 0 ≤ o.a ∧ 0 ≤ o.s) &&
    (if o.kind = 1 ∨ o.kind = 2 then decide (o.a < min regs 4 ∧ o.s < min slots 4) else if o.kind = 3 ∨ o.kind = 5 then decide (o.a = 0 ∧ o.s = 0) else if o.kind = 4 then decide (o.a < min regs 4 ∧ o.s = 0) else false)
def cLet (r : Int) : UInt8 := UInt8.ofNat (65 + r.toNat)
def cDig (s : Int) : UInt8 := UInt8.ofNat (48 + s.toNat)
def cText (o : Oq) : List UInt8 :=
  if cRight o 4 4 = true then
    (if o.kind = 1 then [cLet o.r, 61, cLet o.a, 46, cDig o.s] else if o.kind = 2 then [cLet o.a, 46, cDig o.s, 61, cLet o.r] else if o.kind = 3 then [cLet o.r, 61, 110, 101, 119] else if o.kind = 4 then [cLet o.r, 61, cLet o.a] else [cLet o.r, 61, 48])
  else [63]
/-- all right ops -/
def cAll : List Oq := ((List.range 6).flatMap fun (k : Nat) => (List.range 4).flatMap fun (r : Nat) => (List.range 4).flatMap fun (a : Nat) => (List.range 4).map fun (s : Nat) => (⟨(k : Int), (r : Int), (a : Int), (s : Int)⟩ : Oq)).filter fun o => cRight o 4 4
def cOne (t : List UInt8) : Option Oq := cAll.find? fun o => cText o == t
def joinS : List (List UInt8) → List UInt8
  | [] => []
  | [p] => p
  | p :: q :: l => p ++ 59 :: joinS (q :: l)
def cPrint (l : List Oq) : List UInt8 := if l = [] then [45] else joinS (l.map cText)
def cOps : List (List UInt8) → Option (List Oq)
  | [] => some []
  | p :: l => match cOne p, cOps l with | some o, some r => some (o :: r) | _, _ => none
def cParse (t : List UInt8) : List Oq × Int :=
  if t = [45] then ([], 0) else match cOps (cut 59 t) with | none => ([], 2) | some l => if 64 < l.length then ([], 3) else (l, 0)
def cFits (l : List Oq) (regs slots : Int) : Bool := l.all (fun o => cRight o regs slots) && decide (l.length ≤ 64)
def cWrites (l : List Oq) : Nat := l.countP fun o => o.kind == 2
theorem mem_all {o : Oq} : o ∈ cAll ↔ cRight o 4 4 = true := by
  unfold cAll
  rw [List.mem_filter]
  refine ⟨fun h => h.2, fun h => ⟨?_, h⟩⟩
  obtain ⟨k, r, a, s⟩ := o
  have hb : (0 ≤ k ∧ k ≤ 5) ∧ (0 ≤ r ∧ r < 4) ∧ (0 ≤ a ∧ a < 4) ∧ (0 ≤ s ∧ s < 4) := by
    unfold cRight at h
    rw [Bool.and_eq_true, decide_eq_true_eq] at h
    obtain ⟨h1, h2⟩ := h
    simp only at h1 h2
    split at h2
    · rw [decide_eq_true_eq] at h2; omega
    · split at h2
      · rw [decide_eq_true_eq] at h2; omega
      · split at h2
        · rw [decide_eq_true_eq] at h2; omega
        · cases h2
  simp only [List.mem_flatMap, List.mem_map, List.mem_range, Oq.mk.injEq]
  exact ⟨k.toNat, by omega, r.toNat, by omega, a.toNat, by omega, s.toNat, by omega, by omega, by omega, by omega, by omega⟩
theorem all_inj : ∀ x ∈ cAll, ∀ y ∈ cAll, cText x = cText y → x = y := by decide +kernel
theorem all_text : ∀ x ∈ cAll, 59 ∉ cText x ∧ cText x ≠ [] ∧ cText x ≠ [45] ∧ cText x ≠ [63] ∧ (cText x).length ≤ 5 := by decide +kernel
theorem text_no (o : Oq) : cText o = [63] ↔ cRight o 4 4 = false := by
  constructor
  · intro h
    cases hr : cRight o 4 4 with
    | false => rfl
    | true => exact absurd h (all_text _ (mem_all.2 hr)).2.2.2.1
  · intro h; unfold cText; rw [h]; rfl
theorem one_text {o : Oq} (h : cRight o 4 4 = true) : cOne (cText o) = some o := by
  unfold cOne
  cases hf : cAll.find? fun x => cText x == cText o with
  | none =>
    rw [List.find?_eq_none] at hf
    exact absurd (by simp) (hf o (mem_all.2 h))
  | some x =>
    have h1 := List.find?_some hf
    have h2 := List.mem_of_find?_eq_some hf
    rw [beq_iff_eq] at h1
    rw [all_inj x h2 o (mem_all.2 h) h1]
theorem one_some {t : List UInt8} {o : Oq} (h : cOne t = some o) : cRight o 4 4 = true ∧ cText o = t := by
  unfold cOne at h
  have h1 := List.find?_some h
  rw [beq_iff_eq] at h1
  exact ⟨mem_all.1 (List.mem_of_find?_eq_some h), h1⟩
theorem cOps_some : ∀ {ps : List (List UInt8)} {l : List Oq}, cOps ps = some l → l.map cText = ps ∧ ∀ o ∈ l, cRight o 4 4 = true
  | [], l, h => by
    simp only [cOps, Option.some.injEq] at h
    subst h; simp
  | p :: ps, l, h => by
    rw [cOps] at h
    cases h1 : cOne p with
    | none => rw [h1] at h; cases h
    | some o =>
      cases h2 : cOps ps with
      | none => rw [h1, h2] at h; cases h
      | some r =>
        rw [h1, h2] at h
        simp only [Option.some.injEq] at h
        subst h
        obtain ⟨e1, e2⟩ := cOps_some h2
        obtain ⟨e3, e4⟩ := one_some h1
        refine ⟨by rw [List.map_cons, e4, e1], fun x hx => ?_⟩
        rcases List.mem_cons.1 hx with rfl | hx
        · exact e3
        · exact e2 x hx
end Go.Proofs.YtjnokhaojpijhaaGreatDoor
/- Layer heap: what the chapter asks, as plain functions on lists. -/
namespace Go.Proofs.YtjnokhaojpijhaaGreatDoor
abbrev Rws := List (List Int)
def hasO (ls : Rws) (o : Int) : Bool := decide (1 ≤ o ∧ o ≤ ls.length)
def rowF (ls : Rws) (o : Int) : List Int := ls.getD (o - 1).toNat []
def mayF (ls : Rws) (v : Int) : Bool := decide (0 ≤ v ∧ v ≤ ls.length)
def rowOk (n : Int) (k : Nat) (l : List Int) : Bool := decide ((l.length : Int) = n) && l.all fun v => decide (0 ≤ v ∧ v ≤ k)
def rightF (n : Int) (ls : Rws) : Bool := decide (1 ≤ n ∧ n ≤ 4 ∧ ls.length ≤ 64) && ls.all (rowOk n ls.length)
def sameF (n : Int) (ls : Rws) (m : Int) (ms : Rws) : Bool := decide (n = m ∧ ls = ms)
/-- each number is an int -/
def Rng (ls : Rws) : Prop := ∀ l ∈ ls, ∀ o ∈ l, -9223372036854775808 ≤ o ∧ o ≤ 9223372036854775807
theorem rowF_mem {ls : Rws} {o : Int} (h : 1 ≤ o ∧ o ≤ ls.length) : rowF ls o = ls[(o - 1).toNat]'(by omega) := by
  unfold rowF; rw [List.getD_eq_getElem?_getD, List.getElem?_eq_getElem (by omega)]; rfl
theorem right_len {n : Int} {ls : Rws} (h : rightF n ls = true) : 1 ≤ n ∧ n ≤ 4 ∧ ls.length ≤ 64 := by
  unfold rightF at h; rw [Bool.and_eq_true, decide_eq_true_iff] at h; exact h.1
theorem right_rows {n : Int} {ls : Rws} (h : rightF n ls = true) : ∀ l ∈ ls, (l.length : Int) = n ∧ ∀ v ∈ l, 0 ≤ v ∧ v ≤ ls.length := by
  unfold rightF at h; rw [Bool.and_eq_true, List.all_eq_true] at h
  intro l hl
  have := h.2 l hl
  unfold rowOk at this
  rw [Bool.and_eq_true, decide_eq_true_iff, List.all_eq_true] at this
  exact ⟨this.1, fun v hv => by simpa using this.2 v hv⟩
theorem right_of {n : Int} {ls : Rws} (h : 1 ≤ n ∧ n ≤ 4 ∧ ls.length ≤ 64) (h2 : ∀ l ∈ ls, (l.length : Int) = n ∧ ∀ v ∈ l, 0 ≤ v ∧ v ≤ ls.length) : rightF n ls = true := by
  unfold rightF
  rw [Bool.and_eq_true, decide_eq_true_iff, List.all_eq_true]
  refine ⟨h, fun l hl => ?_⟩
  unfold rowOk
  rw [Bool.and_eq_true, decide_eq_true_iff, List.all_eq_true]
  exact ⟨(h2 l hl).1, fun v hv => by simpa using (h2 l hl).2 v hv⟩
end Go.Proofs.YtjnokhaojpijhaaGreatDoor
/- Layer heap: texts of heaps, and how they are read, as plain functions on lists. -/
namespace Go.Proofs.YtjnokhaojpijhaaGreatDoor
abbrev B8 := List UInt8
def dec (n : Int) : B8 := Go.Lib.decDigits n.toNat
def isD (b : UInt8) : Bool := [48, 49, 50, 51, 52, 53, 54, 55, 56, 57].contains b
inductive Prt where
  | num (n : Int)
  | mrk (m : B8)
def hFirstF (l : B8) : Option Prt :=
  if l.takeWhile isD = [] then some (.mrk (l.take 1)) else
    match Go.Lib.atoiAll (l.takeWhile isD) with
    | .ok n => if dec n = l.takeWhile isD then some (.num n) else none
    | _ => none
def numF (l : B8) : Option (Int × B8) :=
  match hFirstF l with
  | some (.num n) => some (n, l.drop (dec n).length)
  | _ => none
def passF (c : UInt8) (l : B8) : Option B8 :=
  match hFirstF l with
  | some (.mrk m) => if m = [c] then some (l.drop 1) else none
  | _ => none
def aheadF (s : Nat) : UInt8 := if s = 0 then 124 else 44
def slotsF : Nat → Nat → B8 → Option (List Int × B8)
  | 0, _, l => some ([], l)
  | k + 1, s, l =>
    match passF (aheadF s) l with
    | none => none
    | some l1 =>
      match numF l1 with
      | none => none
      | some (v, l2) => (slotsF k (s + 1) l2).map fun x => (v :: x.1, x.2)
def objsF (n : Nat) : Nat → B8 → Option (Rws × B8)
  | 0, l => some ([], l)
  | f + 1, l =>
    if l = [] then some ([], l) else
      match slotsF n 0 l with
      | none => none
      | some (r, l1) => (objsF n f l1).map fun x => (r :: x.1, x.2)
def heapF (l : B8) : Option (Int × Rws) :=
  match numF l with
  | none => none
  | some (n, l1) =>
    if rightF n [] then
      match objsF n.toNat 65 l1 with
      | none => none
      | some (ls, _) => if rightF n ls then some (n, ls) else none
    else none
/-- what stands behind slot s, with it -/
def slotsT : Nat → List Int → B8
  | _, [] => []
  | s, v :: r => aheadF s :: dec v ++ slotsT (s + 1) r
def hTextF (n : Int) (ls : Rws) : B8 := if rightF n ls then dec n ++ ls.flatMap (slotsT 0) else [63]
theorem take_drop_while (l : B8) : l = l.takeWhile isD ++ l.dropWhile isD := List.takeWhile_append_dropWhile.symm
theorem drop_take : ∀ l : B8, l.drop (l.takeWhile isD).length = l.dropWhile isD
  | [] => rfl
  | b :: l => by
    rw [List.takeWhile_cons, List.dropWhile_cons]
    by_cases h : isD b = true
    · rw [if_pos h, if_pos h]; simpa using drop_take l
    · rw [if_neg h, if_neg h]; rfl
theorem numF_eq {l l1 : B8} {n : Int} (h : numF l = some (n, l1)) : l = dec n ++ l1 := by
  unfold numF hFirstF at h
  split at h
  · rename_i m he
    split at he
    · cases he
    · split at he
      · split at he
        · rename_i hd
          cases he; cases h
          conv => lhs; rw [take_drop_while l]
          rw [hd]
          rw [drop_take]
        · cases he
      · cases he
  · cases h
theorem passF_eq {c : UInt8} {l l1 : B8} (h : passF c l = some l1) : l = c :: l1 := by
  unfold passF hFirstF at h
  split at h
  · rename_i m he
    split at he
    · cases he
      split at h
      · rename_i hm
        cases h
        cases l with
        | nil => simp at hm
        | cons b r => simp at hm; simp [hm]
      · cases h
    · split at he
      · split at he <;> cases he
      · cases he
  · cases h
theorem slotsF_eq : ∀ (k s : Nat) {l l1 : B8} {r : List Int}, slotsF k s l = some (r, l1) → l = slotsT s r ++ l1 ∧ r.length = k
  | 0, s, l, l1, r, h => by unfold slotsF at h; cases h; simp [slotsT]
  | k + 1, s, l, l1, r, h => by
    unfold slotsF at h
    split at h
    · cases h
    · rename_i l2 hp
      split at h
      · cases h
      · rename_i v l3 hn
        rcases hs : slotsF k (s + 1) l3 with _ | ⟨r', l4⟩
        · rw [hs] at h; cases h
        · rw [hs] at h; cases h
          obtain ⟨h1, h2⟩ := slotsF_eq k (s + 1) hs
          refine ⟨?_, by simp [h2]⟩
          rw [passF_eq hp, numF_eq hn, h1]
          simp [slotsT]
def dg (n : Nat) : B8 := if n < 10 then [(48 + n).toUInt8] else [(48 + n / 10).toUInt8, (48 + n % 10).toUInt8]
theorem dec_dg {n : Nat} (h : n < 100) : Go.Lib.decDigits n = dg n := by
  unfold dg
  rw [Go.Lib.decDigits]
  split
  · rfl
  · rename_i h1
    rw [Go.Lib.decDigits, dif_pos (by omega)]
    rfl
/-- no digit first -/
def noD (l : B8) : Prop := ∀ b r, l = b :: r → isD b = false
theorem take_allHp {p : UInt8 → Bool} : ∀ (a l : B8), a.all p = true → (∀ b r, l = b :: r → p b = false) → (a ++ l).takeWhile p = a
  | [], l, _, h => by
    cases l with
    | nil => rfl
    | cons b r => simp [h b r rfl]
  | x :: a, l, ha, h => by
    rw [List.all_cons, Bool.and_eq_true] at ha
    rw [List.cons_append, List.takeWhile_cons, if_pos ha.1, take_allHp a l ha.2 h]
end Go.Proofs.YtjnokhaojpijhaaGreatDoor
/- Layer heap: the document's own way to read a text, as plain functions; it reads what the program reads. -/
namespace Go.Proofs.YtjnokhaojpijhaaGreatDoor
def valD : Int → B8 → Int
  | n, [] => n
  | n, b :: l => valD (n * 10 + ((b.toNat : Int) - 48)) l
def dgt (b : UInt8) : Bool := decide (48 ≤ b.toNat) && decide (b.toNat ≤ 57)
def numN (l : B8) : Int :=
  if l.length < 1 ∨ 7 < l.length then -1 else
    if l.all dgt then (if 1000000 < valD 0 l ∨ Go.Lib.decDigits (valD 0 l).toNat ≠ l then -1 else valD 0 l) else -1
end Go.Proofs.YtjnokhaojpijhaaGreatDoor
/- Layer code: plain facts: the sides of an op's text; where a text is cut. No program in this text. -/
namespace Go.Proofs.YtjnokhaojpijhaaGreatDoor
open Go.Lib (indexByte)
/-- where the first such byte is -/
theorem idx_none {c : UInt8} {l : List UInt8} (h : indexByte l c < 0) : c ∉ l := by
  have := Go.Lib.indexByte_ge l c
  have h1 := Go.Lib.indexByte_none (show indexByte l c = -1 by omega)
  intro hm
  obtain ⟨k, hk⟩ := List.mem_iff_getElem?.1 hm
  exact h1 k hk
theorem idx_some {c : UInt8} {l : List UInt8} {i : Nat} (h : indexByte l c = (i : Int)) : i < l.length ∧ l = l.take i ++ c :: l.drop (i + 1) ∧ c ∉ l.take i := by
  obtain ⟨h1, h2⟩ := Go.Lib.indexByte_some h
  obtain ⟨hi, he⟩ := List.getElem?_eq_some_iff.1 h1
  refine ⟨hi, ?_, fun hm => ?_⟩
  · rw [← he]; simp
  · obtain ⟨k, hk⟩ := List.mem_iff_getElem?.1 hm
    rw [List.getElem?_take] at hk
    split at hk
    · rename_i hlt; exact h2 k hlt hk
    · cases hk
theorem idx_cases (l : List UInt8) (c : UInt8) : (indexByte l c = -1 ∧ c ∉ l) ∨ ∃ i : Nat, indexByte l c = (i : Int) ∧ i < l.length ∧ l = l.take i ++ c :: l.drop (i + 1) ∧ c ∉ l.take i := by
  by_cases h : indexByte l c < 0
  · left; have := Go.Lib.indexByte_ge l c; exact ⟨by omega, idx_none h⟩
  · right; exact ⟨(indexByte l c).toNat, by omega, idx_some (by omega)⟩
inductive Sd where
  | reg (x : Int) | plc (x y : Int) | fre | non | bad
deriving DecidableEq
def sideF (t : List UInt8) : Sd :=
  if t = [110, 101, 119] then .fre else if t = [48] then .non else match t with
    | [x] => .reg ((x.toNat : Int) - 65)
    | [x, y, z] => if y = 46 then .plc ((x.toNat : Int) - 65) ((z.toNat : Int) - 48) else .bad
    | _ => .bad
def opF : Sd → Sd → Option Oq
  | .plc a s, .reg r => some ⟨2, r, a, s⟩
  | .reg r, .plc a s => some ⟨1, r, a, s⟩
  | .reg r, .fre => some ⟨3, r, 0, 0⟩
  | .reg r, .non => some ⟨5, r, 0, 0⟩
  | .reg r, .reg q => some ⟨4, r, q, 0⟩
  | _, _ => none
def eqCut : List UInt8 → List UInt8 × List UInt8
  | [] => ([], [])
  | b :: t => if b = 61 then ([], t) else (b :: (eqCut t).1, (eqCut t).2)
def readFCd (t : List UInt8) : Option Oq := match opF (sideF (eqCut t).1) (sideF (eqCut t).2) with | none => none | some o => if cText o = t then some o else none
theorem eqCut_none : ∀ {t : List UInt8}, (61 : UInt8) ∉ t → eqCut t = (t, [])
  | [], _ => rfl
  | b :: t, h => by
    have hb : b ≠ 61 := fun e => h (by simp [e])
    rw [eqCut, if_neg hb, eqCut_none fun hm => h (List.mem_cons_of_mem _ hm)]
theorem eqCut_some : ∀ {p r : List UInt8}, (61 : UInt8) ∉ p → eqCut (p ++ 61 :: r) = (p, r)
  | [], _, _ => rfl
  | b :: p, r, h => by
    have hb : b ≠ 61 := fun e => h (by simp [e])
    rw [List.cons_append, eqCut, if_neg hb, eqCut_some fun hm => h (List.mem_cons_of_mem _ hm)]
theorem read_all : ∀ x ∈ cAll, readFCd (cText x) = some x := by decide +kernel
theorem readF_is (t : List UInt8) : readFCd t = cOne t := by
  cases hc : cOne t with
  | some o =>
    obtain ⟨h1, h2⟩ := one_some hc
    rw [← h2]; exact read_all o (mem_all.2 h1)
  | none =>
    unfold readFCd
    cases ho : opF (sideF (eqCut t).1) (sideF (eqCut t).2) with
    | none => rfl
    | some o =>
      simp only
      split
      · rename_i he
        exfalso
        cases hr : cRight o 4 4 with
        | true => rw [← he, one_text hr] at hc; cases hc
        | false =>
          rw [(text_no o).2 hr] at he
          rw [← he] at ho
          rw [show opF (sideF (eqCut [63]).1) (sideF (eqCut [63]).2) = none by decide] at ho
          cases ho
      · rfl
end Go.Proofs.YtjnokhaojpijhaaGreatDoor
/- Layer set: the set of a list, one behind another. -/
namespace Go.Proofs.YtjnokhaojpijhaaGreatDoor
theorem ofF_snoc (l : List Int) (k : Nat) (h : k < l.length) : ofF (l.take (k + 1)) = addF (ofF (l.take k)) l[k] := by
  rw [List.take_succ_eq_append_getElem h, ofF, List.foldl_append]; rfl
end Go.Proofs.YtjnokhaojpijhaaGreatDoor
/- A region that draws its order, inside whatever fence: each of its orders, walked as a list. -/
namespace Go.Proofs.YtjnokhaojpijhaaGreatDoor
section
variable {F : Fence} {n : Nat} {P : Program} {ops : Array Oper} {Q : Exit → Act → World → Prop} {md : Region.Mode}
/-- the orders in which a region's operations may come up -/
def allOrders (md : Region.Mode) (ops : Array Oper) : Nat → Array Bool → List (List Nat)
  | 0, _ => [[]]
  | fuel + 1, listed => match Region.ready md ops listed with
    | [] => [[]]
    | i :: r => (i :: r).flatMap fun j => (allOrders md ops fuel (listed.setIfInBounds j true)).map (j :: ·)
theorem orders_mem : ∀ (fuel t : Nat) (listed : Array Bool), Region.linearise.go md ops fuel t listed [] ∈ allOrders md ops fuel listed
  | 0, t, listed => by simp [Region.linearise.go, allOrders]
  | fuel + 1, t, listed => by
    simp only [Region.linearise.go, allOrders]
    change (match (Region.ready md ops listed)[t % (Region.ready md ops listed).length]? with
      | some i => Region.linearise.go md ops fuel (t / (Region.ready md ops listed).length) (listed.setIfInBounds i true) [i]
      | none => [].reverse) ∈ _
    cases hr : Region.ready md ops listed with
    | nil => simp
    | cons x xs =>
      have hlt : t % (x :: xs).length < (x :: xs).length := Nat.mod_lt _ (by simp)
      rw [List.getElem?_eq_getElem hlt]
      simp only
      rw [linearise_go_acc, List.reverse_singleton, List.singleton_append, List.mem_flatMap]
      exact ⟨_, List.getElem_mem hlt, List.mem_map.2 ⟨_, orders_mem fuel _ _, rfl⟩⟩
theorem wpOpsIn_list : ∀ (o : List Nat), wpOpsIn F n P ops Q o = wpListIn F n P ops Q (o.filterMap fun i => ops[i]?)
  | [] => by funext a w; simp [wpOpsIn, wpListIn]
  | i :: o => by
    funext a w
    have ih := wpOpsIn_list o
    cases h : ops[i]? with
    | none => simp only [wpOpsIn, h, List.filterMap_cons, ih]
    | some x => simp only [wpOpsIn, h, List.filterMap_cons, wpListIn, ih]
theorem wpIn_region_orders {id : Nat} {a : Act} {w : World} {L : List (List Nat)} (hm : P.follows .mixedOrders = true) (hL : allOrders .any ops ops.size (Array.replicate ops.size false) = L)
    (h : ∀ o ∈ L, wpListIn F n P ops Q (o.filterMap fun i => ops[i]?) a w.drew) : (Code.region id ops true).wpIn F n P Q a w :=
  wpIn_region_draw fun t => by
    simp only [Region.schedule, hm, Bool.true_or, if_true]
    rw [wpOpsIn_list]
    refine h _ ?_
    rw [← hL]
    exact orders_mem _ _ _
end
end Go.Proofs.YtjnokhaojpijhaaGreatDoor
