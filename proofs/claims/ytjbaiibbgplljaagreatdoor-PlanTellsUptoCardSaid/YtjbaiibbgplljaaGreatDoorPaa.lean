import Derived.Lib.TrailingZeros
import Derived.Lib.ItoaNum
import Derived.Lib.AtoiAllCases
import Derived.Lib.SplitLaws
import Derived.Lib.AtoiAll
import Derived.OrdersHeld
import Derived.Deep.RegionHeld
import Derived.WalkKit
import Derived.ProofKit
import Derived.Lib.IndexLaws
import Derived.Lib.Bytealg
import Derived.RangeFuncBox
import Derived.RangeFuncNested
import Derived.RangeFuncBound
import Derived.RangeFuncCalls
import Derived.RangeFuncLeaves
import Derived.TacticsIn
import Derived.OrdersIn
namespace Go.Proofs.YtjbaiibbgplljaaGreatDoor
def onlyF (o : Int) : Nat := if 1 ≤ o ∧ o ≤ 64 then 2 ^ (o - 1).toNat else 0
def addF (s : Nat) (o : Int) : Nat := s ||| onlyF o
def hasF (s : Nat) (o : Int) : Bool := decide (1 ≤ o) && (decide (o ≤ 64) && s.testBit (o - 1).toNat)
def objs (s : Nat) : List Int := ((List.range 64).filter fun i => s.testBit i).map fun (i : Nat) => (i : Int) + 1
def cntF (s : Nat) : Nat := (objs s).length
def ofF (l : List Int) : Nat := l.foldl addF 0
def underF (a b : Nat) : Bool := decide (a &&& (18446744073709551615 - b) = 0)
def firstF (n : Int) : Nat := 2 ^ (min (max n 0) 64).toNat - 1
theorem p64 : (2 : Nat) ^ 64 = 18446744073709551616 := by decide
theorem onlyF_lt (o : Int) : onlyF o < 18446744073709551616 := by
 unfold onlyF; split
 · rw [← p64]; exact Nat.pow_lt_pow_right (by decide) (by omega)
 · decide
theorem testBit_only (o : Int) (i : Nat) : (onlyF o).testBit i = decide ((i : Int) + 1 = o ∧ i < 64) := by
 unfold onlyF; split
 · rw [Nat.testBit_two_pow]
   congr 1
   apply propext
   constructor
   · intro h; omega
   · intro h; omega
 · rw [Nat.zero_testBit]
   symm
   rw [decide_eq_false_iff_not]; omega
theorem testBit_not (x i : Nat) (hx : x < 18446744073709551616) : (18446744073709551615 - x).testBit i = (decide (i < 64) && !x.testBit i) := by
 have := Nat.testBit_two_pow_sub_succ (x := x) (n := 64) (by rw [p64]; exact hx) i; rw [p64] at this; rw [← this]; congr 1
 omega
theorem testBit_add (s : Nat) (o : Int) (i : Nat) : (addF s o).testBit i = (s.testBit i || decide ((i : Int) + 1 = o ∧ i < 64)) := by
 rw [addF, Nat.testBit_or, testBit_only]
theorem testBit_high {s i : Nat} (hs : s < 18446744073709551616) (h : s.testBit i = true) : i < 64 := by
 apply Nat.lt_of_not_le
 intro hle; rw [Nat.testBit_lt_two_pow (Nat.lt_of_lt_of_le (by rw [← p64] at hs; exact hs) (Nat.pow_le_pow_right (by decide) hle))] at h; cases h
theorem add_lt {s : Nat} (hs : s < 18446744073709551616) (o : Int) : addF s o < 18446744073709551616 := by
 have := onlyF_lt o; rw [← p64] at *; exact Nat.or_lt_two_pow hs this
theorem has_bit (s : Nat) (i : Nat) (hi : i < 64) : hasF s ((i : Int) + 1) = s.testBit i := by
 unfold hasF; rw [decide_eq_true (by omega : 1 ≤ (i : Int) + 1), decide_eq_true (by omega : (i : Int) + 1 ≤ 64), show ((i : Int) + 1 - 1).toNat = i by omega]; simp
theorem has_no (s : Nat) (o : Int) (h : ¬ (1 ≤ o ∧ o ≤ 64)) : hasF s o = false := by
 unfold hasF; by_cases h1 : 1 ≤ o
 · rw [decide_eq_false (by omega : ¬ o ≤ 64)]; simp
 · rw [decide_eq_false h1]; simp
theorem has_eq (s : Nat) (o : Int) : hasF s o = decide (s &&& onlyF o ≠ 0) := by
 by_cases h : 1 ≤ o ∧ o ≤ 64
 · obtain ⟨i, rfl⟩ : ∃ i : Nat, o = (i : Int) + 1 := ⟨(o - 1).toNat, by omega⟩
   rw [has_bit _ _ (by omega)]; cases hb : s.testBit i with
   | true =>
     symm; rw [decide_eq_true_eq]
     intro h0; have : (s &&& onlyF ((i : Int) + 1)).testBit i = true := by rw [Nat.testBit_and, testBit_only, hb]; simp; omega
     rw [h0, Nat.zero_testBit] at this; cases this
   | false =>
     symm; rw [decide_eq_false_iff_not, Decidable.not_not]
     apply Nat.eq_of_testBit_eq
     intro j; rw [Nat.testBit_and, testBit_only, Nat.zero_testBit]; by_cases hj : j = i
     · subst hj; rw [hb]; rfl
     · rw [decide_eq_false (by omega)]; simp
 · rw [has_no _ _ h]
   unfold onlyF; rw [if_neg h]; simp
theorem set_ext {a b : Nat} (ha : a < 18446744073709551616) (hb : b < 18446744073709551616) (h : ∀ i, i < 64 → a.testBit i = b.testBit i) : a = b := by
 apply Nat.eq_of_testBit_eq
 intro i; by_cases hi : i < 64
 · exact h i hi
 · have e : ∀ x, x < 18446744073709551616 → x.testBit i = false := fun x hx => by
    cases hb : x.testBit i with
    | false => rfl
    | true => exact absurd (testBit_high hx hb) hi
   rw [e a ha, e b hb]
theorem mem_objs {s : Nat} {o : Int} : o ∈ objs s ↔ hasF s o = true := by
 unfold objs; rw [List.mem_map]; constructor
 · rintro ⟨i, hi, rfl⟩
   rw [List.mem_filter, List.mem_range] at hi; rw [has_bit _ _ hi.1]; exact hi.2
 · intro h
   by_cases ho : 1 ≤ o ∧ o ≤ 64
   · obtain ⟨i, rfl⟩ : ∃ i : Nat, o = (i : Int) + 1 := ⟨(o - 1).toNat, by omega⟩
     rw [has_bit _ _ (by omega)] at h; exact ⟨i, List.mem_filter.2 ⟨List.mem_range.2 (by omega), h⟩, rfl⟩
   · rw [has_no _ _ ho] at h; cases h
theorem objs_rng {s : Nat} {o : Int} (h : o ∈ objs s) : 1 ≤ o ∧ o ≤ 64 := by
 apply Decidable.byContradiction
 intro ho; rw [mem_objs, has_no _ _ ho] at h; cases h
theorem objs_zero : objs 0 = [] := by
 unfold objs; rw [List.filter_eq_nil_iff.2 (fun i _ => by rw [Nat.zero_testBit]; decide)]; rfl
theorem objs_len (s : Nat) : (objs s).length ≤ 64 := by
 unfold objs; rw [List.length_map]; have := List.length_filter_le (fun i => s.testBit i) (List.range 64); rwa [List.length_range] at this
theorem low_step {s : Nat} (h0 : s ≠ 0) (hs : s < 18446744073709551616) :
 Go.Lib.ctz 64 s < 64 ∧ s.testBit (Go.Lib.ctz 64 s) = true ∧ (∀ i, i < Go.Lib.ctz 64 s → s.testBit i = false) ∧ ∀ i, (s &&& (s - 1)).testBit i = (s.testBit i && decide (i ≠ Go.Lib.ctz 64 s)) := by
 obtain ⟨m, hm, hk⟩ := Go.Lib.ctzFrom_spec 64 s (by omega) (by rw [p64]; exact hs); have e : Go.Lib.ctz 64 s = Go.Lib.ctzFrom 64 s := by unfold Go.Lib.ctz; rw [if_neg h0]
 rw [e]; generalize Go.Lib.ctzFrom 64 s = k at *; have hb : ∀ i, s.testBit i = (decide (k ≤ i) && (2 * m + 1).testBit (i - k)) := fun i => by
  rw [hm, Nat.mul_comm, Nat.testBit_mul_two_pow]
 have h1 : s - 1 = 2 ^ k * (2 * m) + (2 ^ k - 1) := by
  have : 0 < 2 ^ k := Nat.two_pow_pos k; rw [hm, Nat.mul_add, Nat.mul_one]; omega
 have hb1 : ∀ i, (s - 1).testBit i = if i < k then true else (2 * m).testBit (i - k) := fun i => by
  have hlt : 2 ^ k - 1 < 2 ^ k := by have : 0 < 2 ^ k := Nat.two_pow_pos k; omega
  rw [h1, Nat.testBit_two_pow_mul_add _ hlt]; split
  · rw [Nat.testBit_two_pow_sub_one]; simp [*]
  · rfl
 refine ⟨hk, ?_, ?_, ?_⟩
 · rw [hb]; simp
 · intro i hi; rw [hb, decide_eq_false (by omega)]; rfl
 · intro i
   rw [Nat.testBit_and, hb1, hb]; by_cases hi : i < k
   · rw [decide_eq_false (by omega : ¬ k ≤ i)]; rfl
   · rw [if_neg hi, decide_eq_true (by omega : k ≤ i)]
     by_cases hik : i = k
     · subst hik; simp
     · obtain ⟨j, rfl⟩ : ∃ j, i = k + (j + 1) := ⟨i - k - 1, by omega⟩
       rw [decide_eq_true hik, show k + (j + 1) - k = j + 1 by omega, Nat.testBit_succ, Nat.testBit_succ, show (2 * m + 1) / 2 = m by omega, show 2 * m / 2 = m by omega]; cases m.testBit j <;> rfl
theorem filter_split (p : Nat → Bool) (k n : Nat) (hk : k < n) (hp : p k = true) (hlow : ∀ i, i < k → p i = false) :
 (List.range n).filter p = k :: (List.range n).filter fun i => p i && decide (i ≠ k) := by
 obtain ⟨d, rfl⟩ : ∃ d, n = (k + 1) + d := ⟨n - (k + 1), by omega⟩; rw [List.range_add, List.filter_append, List.filter_append, List.range_succ, List.filter_append, List.filter_append]; have a1 : (List.range k).filter p = [] := List.filter_eq_nil_iff.2 fun i hi => by rw [hlow i (List.mem_range.1 hi)]; decide
 have a2 : ((List.range k).filter fun i => p i && decide (i ≠ k)) = [] := List.filter_eq_nil_iff.2 fun i hi => by rw [hlow i (List.mem_range.1 hi)]; simp
 rw [a1, a2]; have a3 : ([k].filter p) = [k] := by simp [hp]
 have a4 : ([k].filter fun i => p i && decide (i ≠ k)) = [] := by simp
 rw [a3, a4]; simp only [List.nil_append, List.singleton_append, List.cons.injEq, true_and]; apply List.filter_congr
 intro i hi; obtain ⟨j, _, rfl⟩ := List.mem_map.1 hi; rw [decide_eq_true (by omega), Bool.and_true]
theorem objs_step {s : Nat} (h0 : s ≠ 0) (hs : s < 18446744073709551616) : objs s = (((Go.Lib.ctz 64 s : Nat) : Int) + 1) :: objs (s &&& (s - 1)) := by
 obtain ⟨h1, h2, h3, h4⟩ := low_step h0 hs; unfold objs; rw [filter_split _ _ 64 h1 h2 h3, List.map_cons]; congr 2
 apply List.filter_congr
 intro i _; rw [h4]
theorem foldl_bit (l : List Int) : ∀ (s : Nat) (i : Nat), i < 64 → (l.foldl addF s).testBit i = (s.testBit i || decide ((i : Int) + 1 ∈ l)) := by
 induction l with
 | nil => intro s i _; simp
 | cons o l ih =>
   intro s i hi; rw [List.foldl_cons, ih _ _ hi, testBit_add, Bool.or_assoc]; congr 1
   rw [Bool.eq_iff_iff]; simp only [Bool.or_eq_true, decide_eq_true_eq, List.mem_cons]; constructor
   · rintro (⟨h, _⟩ | h)
     · exact .inl h
     · exact .inr h
   · rintro (h | h)
     · exact .inl ⟨h, hi⟩
     · exact .inr h
theorem ofF_bit (l : List Int) (i : Nat) (hi : i < 64) : (ofF l).testBit i = decide ((i : Int) + 1 ∈ l) := by
 rw [ofF, foldl_bit l 0 i hi, Nat.zero_testBit]; rfl
theorem foldl_lt (l : List Int) : ∀ s : Nat, s < 18446744073709551616 → l.foldl addF s < 18446744073709551616 := by
 induction l with
 | nil => intro s h; exact h
 | cons o l ih => intro s h; exact ih _ (add_lt h o)
theorem ofF_lt (l : List Int) : ofF l < 18446744073709551616 := foldl_lt l 0 (by decide)
theorem of_objs {s : Nat} (hs : s < 18446744073709551616) : ofF (objs s) = s :=
 set_ext (ofF_lt _) hs fun i hi => by
  rw [ofF_bit _ _ hi, ← has_bit s i hi, Bool.eq_iff_iff, decide_eq_true_eq, mem_objs]
theorem has_of (l : List Int) (o : Int) : hasF (ofF l) o = (decide (1 ≤ o ∧ o ≤ 64) && decide (o ∈ l)) := by
 by_cases h : 1 ≤ o ∧ o ≤ 64
 · obtain ⟨i, rfl⟩ : ∃ i : Nat, o = (i : Int) + 1 := ⟨(o - 1).toNat, by omega⟩
   rw [has_bit _ _ (by omega), ofF_bit _ _ (by omega), decide_eq_true h, Bool.true_and]
 · rw [has_no _ _ h, decide_eq_false h]; rfl
theorem under_iff {a b : Nat} (ha : a < 18446744073709551616) (hb : b < 18446744073709551616) : underF a b = true ↔ ∀ i, i < 64 → a.testBit i = true → b.testBit i = true := by
 unfold underF; rw [decide_eq_true_eq]; constructor
 · intro h i hi hai
   have : (a &&& (18446744073709551615 - b)).testBit i = false := by rw [h, Nat.zero_testBit]
   rw [Nat.testBit_and, testBit_not _ _ hb, hai, decide_eq_true hi] at this; simpa using this
 · intro h
   apply Nat.eq_of_testBit_eq
   intro i; rw [Nat.testBit_and, testBit_not _ _ hb, Nat.zero_testBit]; cases hai : a.testBit i with
   | false => rfl
   | true =>
     have hi := testBit_high ha hai; rw [h i hi hai]; simp
theorem under_eq {a b : Nat} (ha : a < 18446744073709551616) (hb : b < 18446744073709551616) : underF a b = decide (a &&& b = a) := by
 rw [Bool.eq_iff_iff, under_iff ha hb, decide_eq_true_eq]; constructor
 · intro h
   apply Nat.eq_of_testBit_eq
   intro i; rw [Nat.testBit_and]; cases hai : a.testBit i with
   | false => rfl
   | true => rw [h i (testBit_high ha hai) hai]; rfl
 · intro h i _ hai
   rw [← h, Nat.testBit_and] at hai; simp at hai; exact hai.2
theorem first_lt (n : Int) : firstF n < 18446744073709551616 := by
 unfold firstF; have := Nat.pow_le_pow_right (n := 2) (by decide) (show (min (max n 0) 64).toNat ≤ 64 by omega); rw [p64] at this; omega
theorem first_bit (n : Int) (i : Nat) : (firstF n).testBit i = decide ((i : Int) < n ∧ i < 64) := by
 unfold firstF; rw [Nat.testBit_two_pow_sub_one]; congr 1
 apply propext
 omega
theorem has_first (n o : Int) : hasF (firstF n) o = decide (1 ≤ o ∧ o ≤ 64 ∧ o ≤ n) := by
 by_cases h : 1 ≤ o ∧ o ≤ 64
 · obtain ⟨i, rfl⟩ : ∃ i : Nat, o = (i : Int) + 1 := ⟨(o - 1).toNat, by omega⟩
   rw [has_bit _ _ (by omega), first_bit]; congr 1
   apply propext
   omega
 · rw [has_no _ _ h]
   symm; rw [decide_eq_false_iff_not]; omega
open Go.Lib (index count splitK decDigits atoiAll)
def cut (c : UInt8) : List UInt8 → List (List UInt8)
 | [] => [[]]
 | b :: l => if b = c then [] :: cut c l else match cut c l with | [] => [[b]] | p :: r => (b :: p) :: r
theorem index_skip (b c : UInt8) (l : List UInt8) (h : b ≠ c) : index (b :: l) [c] = if index l [c] == -1 then -1 else index l [c] + 1 := by
 rw [index]; have : ([c].isPrefixOf (b :: l)) = false := by simp [List.isPrefixOf, Ne.symm h]
 rw [this]; simp
theorem splitK_cut (c : UInt8) : ∀ l : List UInt8, splitK [c] 0 (count l [c]) l = cut c l
 | [] => rfl
 | b :: l => by
   have ih := splitK_cut c l; by_cases hb : b = c
   · subst hb
     have hi : index (b :: l) [b] = 0 := by rw [index]; simp [List.isPrefixOf]
     rw [Go.Lib.count_cons_eq, Nat.add_comm, splitK, hi, if_neg (by decide), cut, if_pos rfl, ← ih]; rfl
   · rw [Go.Lib.count_cons_ne b c l hb, cut, if_neg hb]
     cases hk : count l [c] with
     | zero =>
       rw [hk] at ih; rw [← ih]; rfl
     | succ k =>
       rw [hk] at ih; have hi : index l [c] ≠ -1 := fun e => by rw [Go.Lib.count_miss e] at hk; cases hk
       have hi' : (index l [c] == -1) = false := by rw [beq_eq_false_iff_ne]; exact hi
       have hge := Go.Lib.index_ge l [c]; obtain ⟨i, hii⟩ : ∃ i : Nat, index l [c] = i := ⟨(index l [c]).toNat, by omega⟩; have hi2 : index (b :: l) [c] = ((i + 1 : Nat) : Int) := by rw [index_skip b c l hb, hi', hii]; simp
       have n1 : (((i + 1 : Nat) : Int) == -1) = false := by rw [beq_eq_false_iff_ne]; omega
       have n2 : (((i : Nat) : Int) == -1) = false := by rw [beq_eq_false_iff_ne]; omega
       rw [← ih, splitK, splitK, hi2, hii, n1, n2]; simp
theorem cut_ne (c : UInt8) (l : List UInt8) : cut c l ≠ [] := by
 cases l with
 | nil => simp [cut]
 | cons b l =>
   rw [cut]; split
   · simp
   · split <;> simp
theorem cut_pre (c : UInt8) (p l : List UInt8) (h : c ∉ p) : cut c (p ++ c :: l) = p :: cut c l := by
 induction p with
 | nil => simp [cut]
 | cons b p ih =>
   have hb : b ≠ c := fun e => h (by simp [e])
   rw [List.cons_append, cut, if_neg hb, ih fun hm => h (List.mem_cons_of_mem _ hm)]
theorem cut_all (c : UInt8) (p : List UInt8) (h : c ∉ p) : cut c p = [p] := by
 induction p with
 | nil => rfl
 | cons b p ih =>
   have hb : b ≠ c := fun e => h (by simp [e])
   rw [cut, if_neg hb, ih fun hm => h (List.mem_cons_of_mem _ hm)]
def dig (o : Int) : List UInt8 := if o < 10 then [UInt8.ofNat (48 + o.toNat)] else [UInt8.ofNat (48 + o.toNat / 10), UInt8.ofNat (48 + o.toNat % 10)]
def txStep (t : List UInt8) (o : Int) : List UInt8 := (if t = [] then [] else t ++ [44]) ++ dig o
def textL (l : List Int) : List UInt8 := l.foldl txStep []
def textF (s : Nat) : List UInt8 := if s = 0 then [45] else textL (objs s)
theorem dig_dec (n : Nat) (h : n < 100) : decDigits n = dig n := by
 unfold dig; by_cases h10 : n < 10
 · rw [if_pos (by omega), Go.Lib.decDigits_one h10]; rfl
 · rw [if_neg (by omega), Go.Lib.decDigits_two h10 h]; rfl
theorem dig_ne (o : Int) : dig o ≠ [] := by unfold dig; split <;> simp
theorem dig_len (o : Int) : (dig o).length = if o < 10 then 1 else 2 := by unfold dig; split <;> rfl
theorem dig_facts : ∀ n : Fin 65, (44 : UInt8) ∉ dig (n.val : Int) ∧ (1 ≤ n.val → atoiAll (dig (n.val : Int)) = .ok (n.val : Int)) := by decide +kernel
theorem dig_44 {o : Int} (h : 1 ≤ o ∧ o ≤ 64) : (44 : UInt8) ∉ dig o := by
 have := (dig_facts ⟨o.toNat, by omega⟩).1; rwa [show ((o.toNat : Nat) : Int) = o by omega] at this
theorem dig_atoi {o : Int} (h : 1 ≤ o ∧ o ≤ 64) : atoiAll (dig o) = .ok o := by
 have := (dig_facts ⟨o.toNat, by omega⟩).2 (by show 1 ≤ o.toNat; omega); rwa [show ((o.toNat : Nat) : Int) = o by omega] at this
theorem txStep_ne (t : List UInt8) (o : Int) : txStep t o ≠ [] := by unfold txStep; have := dig_ne o; simp [this]
theorem foldl_tx (l : List Int) : ∀ t : List UInt8, t ≠ [] → l.foldl txStep t = t ++ l.flatMap fun o => 44 :: dig o := by
 induction l with
 | nil => intro t _; simp
 | cons o l ih => intro t ht; rw [List.foldl_cons, ih _ (txStep_ne t o), txStep, if_neg ht]; simp
theorem textL_cons (o : Int) (l : List Int) : textL (o :: l) = dig o ++ l.flatMap fun o => 44 :: dig o := by
 unfold textL; rw [List.foldl_cons, foldl_tx _ _ (txStep_ne _ _)]; simp [txStep]
theorem textL_snoc (l : List Int) (o : Int) : textL (l ++ [o]) = txStep (textL l) o := by unfold textL; rw [List.foldl_append]; rfl
theorem textL_nil (l : List Int) : textL l = [] ↔ l = [] := by
 cases l with
 | nil => simp [textL]
 | cons o l => have := dig_ne o; rw [textL_cons]; simp [this]
theorem cut_text : ∀ (l : List Int) (o : Int), (∀ x ∈ o :: l, 1 ≤ x ∧ x ≤ 64) → cut 44 (dig o ++ l.flatMap fun o => 44 :: dig o) = (o :: l).map dig
 | [], o, h => by simpa using cut_all 44 (dig o) (dig_44 (h o (List.mem_cons_self ..)))
 | x :: l, o, h => by
   rw [List.flatMap_cons, List.cons_append, cut_pre _ _ _ (dig_44 (h o (List.mem_cons_self ..))), cut_text l x fun y hy => h y (List.mem_cons_of_mem _ hy)]; rfl
def atoi0 (p : List UInt8) : Int := match atoiAll p with | .ok v => v | _ => 0
def numsF (t : List UInt8) : List Int := (cut 44 t).map atoi0
def parseFSt (t : List UInt8) : Nat × Int := if 182 < t.length then (0, 2) else if textF (ofF (numsF t)) = t then (ofF (numsF t), 0) else (0, 2)
theorem objs_ne {s : Nat} (h : s ≠ 0) (hs : s < 18446744073709551616) : objs s ≠ [] := by rw [objs_step h hs]; simp
theorem nums_text {s : Nat} (hs : s < 18446744073709551616) : ofF (numsF (textF s)) = s := by
 unfold textF; split
 · rename_i h; subst h; decide +kernel
 · rename_i h
   have hr : ∀ x ∈ objs s, 1 ≤ x ∧ x ≤ 64 := fun x hx => objs_rng hx
   have he := of_objs hs; cases ho : objs s with
   | nil => exact absurd ho (objs_ne h hs)
   | cons o l =>
     rw [ho] at hr he; rw [textL_cons, numsF, cut_text l o hr, List.map_map]; have : (o :: l).map (atoi0 ∘ dig) = o :: l := by
      have : ∀ x ∈ o :: l, (atoi0 ∘ dig) x = x := fun x hx => by show atoi0 (dig x) = x; unfold atoi0; rw [dig_atoi (hr x hx)]
      rw [List.map_congr_left this, List.map_id']
     rw [this, he]
theorem tx_len : ∀ (l : List Int), (l.flatMap fun o => 44 :: dig o).length = (l.map fun o => (if o < 10 then 2 else 3)).sum
 | [] => rfl
 | o :: l => by
   rw [List.flatMap_cons, List.length_append, tx_len l, List.map_cons, List.sum_cons, List.length_cons, dig_len]; split <;> omega
theorem sum_filter (f : Nat → Nat) (p : Nat → Bool) : ∀ l : List Nat, ((l.filter p).map f).sum ≤ (l.map f).sum
 | [] => by simp
 | a :: l => by
   have := sum_filter f p l; rw [List.filter_cons]; split
   · simp only [List.map_cons, List.sum_cons]; omega
   · simp only [List.map_cons, List.sum_cons]; omega
theorem text_lenSt (s : Nat) : (textF s).length ≤ 182 := by
 unfold textF; split
 · decide
 · cases ho : objs s with
   | nil => decide
   | cons o l =>
     have h1 := tx_len (objs s); have h2 : ((objs s).map fun o => (if o < 10 then 2 else 3)).sum ≤ 183 := by
      unfold objs; rw [List.map_map]; refine Nat.le_trans (sum_filter _ _ _) ?_; decide +kernel
     rw [ho, List.flatMap_cons, List.length_append, List.length_cons] at h1; rw [ho] at h2; rw [textL_cons, List.length_append]; omega
theorem full_text : (textF (firstF 64)).length = 182 := by decide +kernel
theorem parse_textSt {s : Nat} (hs : s < 18446744073709551616) : parseFSt (textF s) = (s, 0) := by
 unfold parseFSt; rw [if_neg (by have := text_lenSt s; omega), nums_text hs, if_pos rfl]
theorem parse_lt (t : List UInt8) : (parseFSt t).1 < 18446744073709551616 := by
 unfold parseFSt; split
 · decide
 · split
   · exact ofF_lt _
   · decide
theorem parse_cases (t : List UInt8) : ((parseFSt t).2 = 0 ∧ textF (parseFSt t).1 = t) ∨ ((parseFSt t).2 = 2 ∧ (parseFSt t).1 = 0) := by
 unfold parseFSt; split
 · exact .inr ⟨rfl, rfl⟩
 · split
   · exact .inl ⟨rfl, by assumption⟩
   · exact .inr ⟨rfl, rfl⟩
def rAcc : List UInt8 → Nat → Int → Nat
 | [], s, n => addF s n
 | c :: r, s, n => if (48 ≤ c.toNat ∧ c.toNat ≤ 57) ∧ n ≤ 64 then rAcc r s (n * 10 + ((c.toNat : Int) - 48)) else rAcc r (addF s n) 0
def rParseF (t : List UInt8) : Nat × Int := if textF (rAcc t 0 0) = t then (rAcc t 0 0, 0) else (0, 2)
theorem rAcc_lt : ∀ (t : List UInt8) (s : Nat) (n : Int), s < 18446744073709551616 → rAcc t s n < 18446744073709551616
 | [], s, n, h => add_lt h n
 | c :: r, s, n, h => by
   rw [rAcc]; split
   · exact rAcc_lt r _ _ h
   · exact rAcc_lt r _ _ (add_lt h n)
theorem dig_cases : ∀ n : Fin 65, 1 ≤ n.val → (∃ a, dig (n.val : Int) = [a] ∧ (48 ≤ a.toNat ∧ a.toNat ≤ 57) ∧ (a.toNat : Int) - 48 = n.val) ∨
 (∃ a b, dig (n.val : Int) = [a, b] ∧ (48 ≤ a.toNat ∧ a.toNat ≤ 57) ∧ (48 ≤ b.toNat ∧ b.toNat ≤ 57) ∧ ((a.toNat : Int) - 48) * 10 + ((b.toNat : Int) - 48) = n.val ∧ (a.toNat : Int) - 48 ≤ 64) := fun n h => by
 have e : ∀ k : Nat, k < 10 → (UInt8.ofNat (48 + k)).toNat = 48 + k := fun k hk => by rw [UInt8.toNat_ofNat']; omega
 unfold dig; by_cases h10 : n.val < 10
 · rw [if_pos (by omega)]
   exact .inl ⟨_, rfl, by rw [e _ (by omega)]; omega, by rw [e _ (by omega)]; omega⟩
 · rw [if_neg (by omega)]
   refine .inr ⟨_, _, rfl, ?_, ?_, ?_, ?_⟩ <;> (first | rw [e _ (by omega), e _ (by omega)] | rw [e _ (by omega)]) <;> omega
theorem rAcc_dig {o : Int} (h : 1 ≤ o ∧ o ≤ 64) (r : List UInt8) (s : Nat) : rAcc (dig o ++ r) s 0 = rAcc r s o := by
 have hc := dig_cases ⟨o.toNat, by omega⟩ (by show 1 ≤ o.toNat; omega); dsimp only at hc; rw [show ((o.toNat : Nat) : Int) = o by omega] at hc; rcases hc with ⟨a, e, ha, hv⟩ | ⟨a, b, e, ha, hb, hv, h64⟩
 · rw [e, List.singleton_append, rAcc, if_pos ⟨ha, by decide⟩]; congr 1; omega
 · rw [e, List.cons_append, List.singleton_append, rAcc, if_pos ⟨ha, by decide⟩, rAcc, if_pos ⟨hb, by omega⟩]; congr 1; omega
theorem rAcc_list : ∀ (l : List Int) (s : Nat) (o : Int), (∀ x ∈ l, 1 ≤ x ∧ x ≤ 64) → rAcc (l.flatMap fun o => 44 :: dig o) s o = (o :: l).foldl addF s
 | [], s, o, _ => rfl
 | x :: l, s, o, h => by
   rw [List.flatMap_cons, List.cons_append, rAcc, if_neg (by rintro ⟨⟨h1, _⟩, _⟩; revert h1; decide), rAcc_dig (h x (List.mem_cons_self ..)), rAcc_list l _ _ fun y hy => h y (List.mem_cons_of_mem _ hy)]; rfl
theorem rAcc_text {s : Nat} (hs : s < 18446744073709551616) : rAcc (textF s) 0 0 = s := by
 unfold textF; split
 · rename_i h; subst h; decide +kernel
 · rename_i h
   have hr : ∀ x ∈ objs s, 1 ≤ x ∧ x ≤ 64 := fun x hx => objs_rng hx
   have he := of_objs hs; cases ho : objs s with
   | nil => exact absurd ho (objs_ne h hs)
   | cons o l =>
     rw [ho] at hr he; rw [textL_cons, rAcc_dig (hr o (List.mem_cons_self ..)), rAcc_list _ _ _ fun y hy => hr y (List.mem_cons_of_mem _ hy)]; exact he
theorem parse_same (t : List UInt8) : parseFSt t = rParseF t := by
 by_cases h : ∃ s, s < 18446744073709551616 ∧ textF s = t
 · obtain ⟨s, hs, rfl⟩ := h
   rw [parse_textSt hs, rParseF, rAcc_text hs, if_pos rfl]
 · have hn : ∀ s, s < 18446744073709551616 → textF s ≠ t := fun s hs e => h ⟨s, hs, e⟩
   unfold parseFSt rParseF; rw [if_neg (hn _ (ofF_lt _)), if_neg (hn _ (rAcc_lt _ _ _ (by decide)))]; split <;> rfl
end Go.Proofs.YtjbaiibbgplljaaGreatDoor
namespace Go.Proofs.YtjbaiibbgplljaaGreatDoor
structure Oq where
 kind : Int
 r : Int
 a : Int
 s : Int
deriving DecidableEq
def cRight (o : Oq) (regs slots : Int) : Bool :=
 decide (0 ≤ o.r ∧ o.r < min regs 4 ∧ 0 ≤ o.a ∧ 0 ≤ o.s) &&
  (if o.kind = 1 ∨ o.kind = 2 then decide (o.a < min regs 4 ∧ o.s < min slots 4) else if o.kind = 3 ∨ o.kind = 5 then decide (o.a = 0 ∧ o.s = 0) else if o.kind = 4 then decide (o.a < min regs 4 ∧ o.s = 0) else false)
def cLet (r : Int) : UInt8 := UInt8.ofNat (65 + r.toNat)
def cDig (s : Int) : UInt8 := UInt8.ofNat (48 + s.toNat)
def cText (o : Oq) : List UInt8 :=
 if cRight o 4 4 = true then
  (if o.kind = 1 then [cLet o.r, 61, cLet o.a, 46, cDig o.s] else if o.kind = 2 then [cLet o.a, 46, cDig o.s, 61, cLet o.r] else if o.kind = 3 then [cLet o.r, 61, 110, 101, 119] else if o.kind = 4 then [cLet o.r, 61, cLet o.a] else [cLet o.r, 61, 48])
 else [63]
def cAll : List Oq := ((List.range 6).flatMap fun (k : Nat) => (List.range 4).flatMap fun (r : Nat) => (List.range 4).flatMap fun (a : Nat) => (List.range 4).map fun (s : Nat) => (⟨(k : Int), (r : Int), (a : Int), (s : Int)⟩ : Oq)).filter fun o => cRight o 4 4
def cOne (t : List UInt8) : Option Oq := cAll.find? fun o => cText o == t
def joinS : List (List UInt8) → List UInt8
 | [] => []
 | [p] => p
 | p :: q :: l => p ++ 59 :: joinS (q :: l)
def cPrint (l : List Oq) : List UInt8 := if l = [] then [45] else joinS (l.map cText)
def cOps : List (List UInt8) → Option (List Oq)
 | [] => some []
 | p :: l => match cOne p, cOps l with | some o, some r => some (o :: r) | _, _ => none
def cParse (t : List UInt8) : List Oq × Int :=
 if t = [45] then ([], 0) else match cOps (cut 59 t) with | none => ([], 2) | some l => if 64 < l.length then ([], 3) else (l, 0)
def cFits (l : List Oq) (regs slots : Int) : Bool := l.all (fun o => cRight o regs slots) && decide (l.length ≤ 64)
def cWrites (l : List Oq) : Nat := l.countP fun o => o.kind == 2
theorem mem_all {o : Oq} : o ∈ cAll ↔ cRight o 4 4 = true := by
 unfold cAll; rw [List.mem_filter]; refine ⟨fun h => h.2, fun h => ⟨?_, h⟩⟩; obtain ⟨k, r, a, s⟩ := o; have hb : (0 ≤ k ∧ k ≤ 5) ∧ (0 ≤ r ∧ r < 4) ∧ (0 ≤ a ∧ a < 4) ∧ (0 ≤ s ∧ s < 4) := by
  unfold cRight at h; rw [Bool.and_eq_true, decide_eq_true_eq] at h; obtain ⟨h1, h2⟩ := h; simp only at h1 h2
  split at h2
  · rw [decide_eq_true_eq] at h2; omega
  · split at h2
    · rw [decide_eq_true_eq] at h2; omega
    · split at h2
      · rw [decide_eq_true_eq] at h2; omega
      · cases h2
 simp only [List.mem_flatMap, List.mem_map, List.mem_range, Oq.mk.injEq]; exact ⟨k.toNat, by omega, r.toNat, by omega, a.toNat, by omega, s.toNat, by omega, by omega, by omega, by omega, by omega⟩
theorem all_inj : ∀ x ∈ cAll, ∀ y ∈ cAll, cText x = cText y → x = y := by decide +kernel
theorem all_text : ∀ x ∈ cAll, 59 ∉ cText x ∧ cText x ≠ [] ∧ cText x ≠ [45] ∧ cText x ≠ [63] ∧ (cText x).length ≤ 5 := by decide +kernel
theorem text_no (o : Oq) : cText o = [63] ↔ cRight o 4 4 = false := by
 constructor
 · intro h
   cases hr : cRight o 4 4 with
   | false => rfl
   | true => exact absurd h (all_text _ (mem_all.2 hr)).2.2.2.1
 · intro h; unfold cText; rw [h]; rfl
theorem one_text {o : Oq} (h : cRight o 4 4 = true) : cOne (cText o) = some o := by
 unfold cOne; cases hf : cAll.find? fun x => cText x == cText o with
 | none =>
   rw [List.find?_eq_none] at hf; exact absurd (by simp) (hf o (mem_all.2 h))
 | some x =>
   have h1 := List.find?_some hf; have h2 := List.mem_of_find?_eq_some hf; rw [beq_iff_eq] at h1; rw [all_inj x h2 o (mem_all.2 h) h1]
theorem one_some {t : List UInt8} {o : Oq} (h : cOne t = some o) : cRight o 4 4 = true ∧ cText o = t := by
 unfold cOne at h; have h1 := List.find?_some h; rw [beq_iff_eq] at h1; exact ⟨mem_all.1 (List.mem_of_find?_eq_some h), h1⟩
theorem cOps_some : ∀ {ps : List (List UInt8)} {l : List Oq}, cOps ps = some l → l.map cText = ps ∧ ∀ o ∈ l, cRight o 4 4 = true
 | [], l, h => by
   simp only [cOps, Option.some.injEq] at h; subst h; simp
 | p :: ps, l, h => by
   rw [cOps] at h; cases h1 : cOne p with
   | none => rw [h1] at h; cases h
   | some o =>
     cases h2 : cOps ps with
     | none => rw [h1, h2] at h; cases h
     | some r =>
       rw [h1, h2] at h; simp only [Option.some.injEq] at h; subst h; obtain ⟨e1, e2⟩ := cOps_some h2; obtain ⟨e3, e4⟩ := one_some h1; refine ⟨by rw [List.map_cons, e4, e1], fun x hx => ?_⟩; rcases List.mem_cons.1 hx with rfl | hx
       · exact e3
       · exact e2 x hx
abbrev Rws := List (List Int)
def hasO (ls : Rws) (o : Int) : Bool := decide (1 ≤ o ∧ o ≤ ls.length)
def rowF (ls : Rws) (o : Int) : List Int := ls.getD (o - 1).toNat []
def mayF (ls : Rws) (v : Int) : Bool := decide (0 ≤ v ∧ v ≤ ls.length)
def rowOk (n : Int) (k : Nat) (l : List Int) : Bool := decide ((l.length : Int) = n) && l.all fun v => decide (0 ≤ v ∧ v ≤ k)
def rightF (n : Int) (ls : Rws) : Bool := decide (1 ≤ n ∧ n ≤ 4 ∧ ls.length ≤ 64) && ls.all (rowOk n ls.length)
def sameF (n : Int) (ls : Rws) (m : Int) (ms : Rws) : Bool := decide (n = m ∧ ls = ms)
def Rng (ls : Rws) : Prop := ∀ l ∈ ls, ∀ o ∈ l, -9223372036854775808 ≤ o ∧ o ≤ 9223372036854775807
theorem rowF_mem {ls : Rws} {o : Int} (h : 1 ≤ o ∧ o ≤ ls.length) : rowF ls o = ls[(o - 1).toNat]'(by omega) := by
 unfold rowF; rw [List.getD_eq_getElem?_getD, List.getElem?_eq_getElem (by omega)]; rfl
theorem right_len {n : Int} {ls : Rws} (h : rightF n ls = true) : 1 ≤ n ∧ n ≤ 4 ∧ ls.length ≤ 64 := by
 unfold rightF at h; rw [Bool.and_eq_true, decide_eq_true_iff] at h; exact h.1
theorem right_rows {n : Int} {ls : Rws} (h : rightF n ls = true) : ∀ l ∈ ls, (l.length : Int) = n ∧ ∀ v ∈ l, 0 ≤ v ∧ v ≤ ls.length := by
 unfold rightF at h; rw [Bool.and_eq_true, List.all_eq_true] at h; intro l hl; have := h.2 l hl; unfold rowOk at this; rw [Bool.and_eq_true, decide_eq_true_iff, List.all_eq_true] at this; exact ⟨this.1, fun v hv => by simpa using this.2 v hv⟩
theorem right_of {n : Int} {ls : Rws} (h : 1 ≤ n ∧ n ≤ 4 ∧ ls.length ≤ 64) (h2 : ∀ l ∈ ls, (l.length : Int) = n ∧ ∀ v ∈ l, 0 ≤ v ∧ v ≤ ls.length) : rightF n ls = true := by
 unfold rightF; rw [Bool.and_eq_true, decide_eq_true_iff, List.all_eq_true]; refine ⟨h, fun l hl => ?_⟩; unfold rowOk; rw [Bool.and_eq_true, decide_eq_true_iff, List.all_eq_true]; exact ⟨(h2 l hl).1, fun v hv => by simpa using (h2 l hl).2 v hv⟩
abbrev B8 := List UInt8
def dec (n : Int) : B8 := Go.Lib.decDigits n.toNat
def isD (b : UInt8) : Bool := [48, 49, 50, 51, 52, 53, 54, 55, 56, 57].contains b
inductive Prt where
 | num (n : Int)
 | mrk (m : B8)
def hFirstF (l : B8) : Option Prt :=
 if l.takeWhile isD = [] then some (.mrk (l.take 1)) else
  match Go.Lib.atoiAll (l.takeWhile isD) with
  | .ok n => if dec n = l.takeWhile isD then some (.num n) else none
  | _ => none
def numF (l : B8) : Option (Int × B8) :=
 match hFirstF l with
 | some (.num n) => some (n, l.drop (dec n).length)
 | _ => none
def passF (c : UInt8) (l : B8) : Option B8 :=
 match hFirstF l with
 | some (.mrk m) => if m = [c] then some (l.drop 1) else none
 | _ => none
def aheadF (s : Nat) : UInt8 := if s = 0 then 124 else 44
def slotsF : Nat → Nat → B8 → Option (List Int × B8)
 | 0, _, l => some ([], l)
 | k + 1, s, l =>
   match passF (aheadF s) l with
   | none => none
   | some l1 =>
     match numF l1 with
     | none => none
     | some (v, l2) => (slotsF k (s + 1) l2).map fun x => (v :: x.1, x.2)
def objsF (n : Nat) : Nat → B8 → Option (Rws × B8)
 | 0, l => some ([], l)
 | f + 1, l =>
   if l = [] then some ([], l) else
    match slotsF n 0 l with
    | none => none
    | some (r, l1) => (objsF n f l1).map fun x => (r :: x.1, x.2)
def heapF (l : B8) : Option (Int × Rws) :=
 match numF l with
 | none => none
 | some (n, l1) =>
   if rightF n [] then
    match objsF n.toNat 65 l1 with
    | none => none
    | some (ls, _) => if rightF n ls then some (n, ls) else none
   else none
def slotsT : Nat → List Int → B8
 | _, [] => []
 | s, v :: r => aheadF s :: dec v ++ slotsT (s + 1) r
def hTextF (n : Int) (ls : Rws) : B8 := if rightF n ls then dec n ++ ls.flatMap (slotsT 0) else [63]
theorem take_drop_while (l : B8) : l = l.takeWhile isD ++ l.dropWhile isD := List.takeWhile_append_dropWhile.symm
theorem drop_take : ∀ l : B8, l.drop (l.takeWhile isD).length = l.dropWhile isD
 | [] => rfl
 | b :: l => by
   rw [List.takeWhile_cons, List.dropWhile_cons]; by_cases h : isD b = true
   · rw [if_pos h, if_pos h]; simpa using drop_take l
   · rw [if_neg h, if_neg h]; rfl
theorem numF_eq {l l1 : B8} {n : Int} (h : numF l = some (n, l1)) : l = dec n ++ l1 := by
 unfold numF hFirstF at h; split at h
 · rename_i m he
   split at he
   · cases he
   · split at he
     · split at he
       · rename_i hd
         cases he; cases h
         conv => lhs; rw [take_drop_while l]
         rw [hd]; rw [drop_take]
       · cases he
     · cases he
 · cases h
theorem passF_eq {c : UInt8} {l l1 : B8} (h : passF c l = some l1) : l = c :: l1 := by
 unfold passF hFirstF at h; split at h
 · rename_i m he
   split at he
   · cases he
     split at h
     · rename_i hm
       cases h
       cases l with
       | nil => simp at hm
       | cons b r => simp at hm; simp [hm]
     · cases h
   · split at he
     · split at he <;> cases he
     · cases he
 · cases h
theorem slotsF_eq : ∀ (k s : Nat) {l l1 : B8} {r : List Int}, slotsF k s l = some (r, l1) → l = slotsT s r ++ l1 ∧ r.length = k
 | 0, s, l, l1, r, h => by unfold slotsF at h; cases h; simp [slotsT]
 | k + 1, s, l, l1, r, h => by
   unfold slotsF at h; split at h
   · cases h
   · rename_i l2 hp
     split at h
     · cases h
     · rename_i v l3 hn
       rcases hs : slotsF k (s + 1) l3 with _ | ⟨r', l4⟩
       · rw [hs] at h; cases h
       · rw [hs] at h; cases h
         obtain ⟨h1, h2⟩ := slotsF_eq k (s + 1) hs; refine ⟨?_, by simp [h2]⟩; rw [passF_eq hp, numF_eq hn, h1]; simp [slotsT]
theorem objsF_eq (n : Nat) : ∀ (f : Nat) {l l1 : B8} {ls : Rws}, objsF n f l = some (ls, l1) → l = ls.flatMap (slotsT 0) ++ l1 ∧ (l1 = [] ∨ ls.length = f)
 | 0, l, l1, ls, h => by unfold objsF at h; cases h; simp
 | f + 1, l, l1, ls, h => by
   unfold objsF at h; split at h
   · rename_i hl; cases h; simp [hl]
   · split at h
     · cases h
     · rename_i r l2 hs
       rcases ho : objsF n f l2 with _ | ⟨r', l4⟩
       · rw [ho] at h; cases h
       · rw [ho] at h; cases h
         obtain ⟨h1, h2⟩ := objsF_eq n f ho; obtain ⟨h3, _⟩ := slotsF_eq n 0 hs; refine ⟨by rw [h3, h1]; simp, ?_⟩; rcases h2 with h2 | h2
         · exact .inl h2
         · exact .inr (by simp [h2])
theorem heapF_text {t : B8} {n : Int} {ls : Rws} (h : heapF t = some (n, ls)) : rightF n ls = true ∧ hTextF n ls = t := by
 unfold heapF at h; split at h
 · cases h
 · rename_i m l1 hn
   split at h
   · split at h
     · cases h
     · rename_i ls' l2 ho
       split at h
       · rename_i hr
         cases h
         refine ⟨hr, ?_⟩; obtain ⟨h1, h2⟩ := objsF_eq _ _ ho; have hl := right_len hr; have h3 : l2 = [] := by
          rcases h2 with h2 | h2
          · exact h2
          · omega
         unfold hTextF; rw [if_pos hr, numF_eq hn, h1, h3, List.append_nil]
       · cases h
   · cases h
def dg (n : Nat) : B8 := if n < 10 then [(48 + n).toUInt8] else [(48 + n / 10).toUInt8, (48 + n % 10).toUInt8]
theorem dec_dg {n : Nat} (h : n < 100) : Go.Lib.decDigits n = dg n := by
 unfold dg; rw [Go.Lib.decDigits]; split
 · rfl
 · rename_i h1
   rw [Go.Lib.decDigits, dif_pos (by omega)]; rfl
theorem dg_digits : ∀ n : Fin 65, (dg n.val).all isD = true ∧ dg n.val ≠ [] ∧ Go.Lib.atoiAll (dg n.val) = .ok (n.val : Int) := by decide +kernel
def noD (l : B8) : Prop := ∀ b r, l = b :: r → isD b = false
theorem take_allHp {p : UInt8 → Bool} : ∀ (a l : B8), a.all p = true → (∀ b r, l = b :: r → p b = false) → (a ++ l).takeWhile p = a
 | [], l, _, h => by
   cases l with
   | nil => rfl
   | cons b r => simp [h b r rfl]
 | x :: a, l, ha, h => by
   rw [List.all_cons, Bool.and_eq_true] at ha; rw [List.cons_append, List.takeWhile_cons, if_pos ha.1, take_allHp a l ha.2 h]
theorem numF_dec {v : Int} (h0 : 0 ≤ v) (h1 : v ≤ 64) {l : B8} (hl : noD l) : numF (dec v ++ l) = some (v, l) := by
 obtain ⟨k, rfl⟩ : ∃ k : Nat, v = k := ⟨v.toNat, by omega⟩; obtain ⟨a, b, c⟩ := dg_digits ⟨k, by omega⟩; have e : dec (k : Int) = dg k := by unfold dec; rw [Int.toNat_natCast]; exact dec_dg (by omega)
 have ht : (dg k ++ l).takeWhile isD = dg k := take_allHp _ _ a hl; unfold numF hFirstF; rw [e, ht, if_neg b]; simp only [] at c; rw [c]; simp only
 rw [if_pos e]; simp only
 rw [e, List.drop_left]
theorem passF_cons {c : UInt8} (hc : isD c = false) (l : B8) : passF c (c :: l) = some l := by
 unfold passF hFirstF; rw [List.takeWhile_cons, hc]; simp
theorem ahead_noD (s : Nat) : isD (aheadF s) = false := by unfold aheadF; split <;> decide
theorem slotsT_noD (s : Nat) (r : List Int) {l : B8} (hl : noD l) : noD (slotsT s r ++ l) := by
 cases r with
 | nil => exact hl
 | cons v r =>
   intro b q h; simp only [slotsT, List.cons_append, List.cons.injEq] at h; rw [← h.1]; exact ahead_noD s
theorem slotsF_text : ∀ (r : List Int) (s : Nat) {l : B8}, noD l → (∀ v ∈ r, 0 ≤ v ∧ v ≤ 64) → slotsF r.length s (slotsT s r ++ l) = some (r, l)
 | [], s, l, _, _ => rfl
 | v :: r, s, l, hl, hr => by
   have hv := hr v (List.mem_cons_self ..); rw [List.length_cons]; unfold slotsF slotsT; rw [List.append_assoc, List.cons_append, passF_cons (ahead_noD s)]; simp only
   rw [numF_dec hv.1 hv.2 (slotsT_noD (s + 1) r hl)]; simp only
   rw [slotsF_text r (s + 1) hl (fun v h => hr v (List.mem_cons_of_mem _ h))]; rfl
theorem noD_nil : noD [] := by intro b r h; cases h
theorem objs_noD : ∀ ls : Rws, noD (ls.flatMap (slotsT 0))
 | [] => noD_nil
 | r :: ls => by rw [List.flatMap_cons]; exact slotsT_noD 0 r (objs_noD ls)
theorem objsF_text (n : Nat) (hn : 0 < n) : ∀ (ls : Rws) (f : Nat), ls.length < f → (∀ r ∈ ls, r.length = n ∧ ∀ v ∈ r, 0 ≤ v ∧ v ≤ (64 : Int)) → objsF n f (ls.flatMap (slotsT 0)) = some (ls, [])
 | [], f, hf, _ => by
   cases f with
   | zero => omega
   | succ f => rfl
 | r :: ls, f, hf, h => by
   cases f with
   | zero => simp at hf
   | succ f =>
     have hr := h r (List.mem_cons_self ..); unfold objsF; rw [List.flatMap_cons]; have hne : ¬ (slotsT 0 r ++ ls.flatMap (slotsT 0) = []) := by
      cases r with
      | nil => simp at hr; omega
      | cons v r => simp [slotsT]
     have hs := slotsF_text r 0 (objs_noD ls) hr.2; rw [hr.1] at hs; rw [if_neg hne, hs]; simp only
     rw [objsF_text n hn ls f (by simpa using hf) (fun r h' => h r (List.mem_cons_of_mem _ h'))]; rfl
theorem heapF_of {n : Int} {ls : Rws} (h : rightF n ls = true) : heapF (hTextF n ls) = some (n, ls) := by
 have hl := right_len h; have hr := right_rows h; unfold heapF hTextF; rw [if_pos h, numF_dec (by omega) (by omega) (objs_noD ls)]; simp only
 rw [if_pos (right_of (by simp; omega) (by simp))]; rw [objsF_text n.toNat (by omega) ls 65 (by omega) (fun r hr' => ⟨by have := (hr r hr').1; omega, fun v hv => by have := (hr r hr').2 v hv; omega⟩)]; simp only
 rw [if_pos h]
theorem heapF_wrong : heapF [63] = none := by decide +kernel
def cutG (c : UInt8) : B8 → B8 → List B8
 | cur, [] => [cur]
 | cur, b :: l => if b = c then cur :: cutG c [] l else cutG c (cur ++ [b]) l
def valD : Int → B8 → Int
 | n, [] => n
 | n, b :: l => valD (n * 10 + ((b.toNat : Int) - 48)) l
def dgt (b : UInt8) : Bool := decide (48 ≤ b.toNat) && decide (b.toNat ≤ 57)
def numN (l : B8) : Int :=
 if l.length < 1 ∨ 7 < l.length then -1 else
  if l.all dgt then (if 1000000 < valD 0 l ∨ Go.Lib.decDigits (valD 0 l).toNat ≠ l then -1 else valD 0 l) else -1
def rowN (q : B8) : List Int := (cutG 44 [] q).map numN
def headN (t : B8) : Int := numN ((cutG 124 [] t).headD [])
def rowsN (t : B8) : Rws := ((cutG 124 [] t).drop 1).map rowN
theorem cutG_ne (c : UInt8) : ∀ (l cur : B8), cutG c cur l ≠ []
 | [], _ => by simp [cutG]
 | b :: l, cur => by
   unfold cutG; split
   · simp
   · exact cutG_ne c l _
theorem cutG_len (c : UInt8) : ∀ (l cur : B8), (cutG c cur l).length ≤ l.length + 1
 | [], _ => by simp [cutG]
 | b :: l, cur => by
   unfold cutG; split
   · have := cutG_len c l []; simp; omega
   · have := cutG_len c l (cur ++ [b]); simp; omega
theorem cutG_size (c : UInt8) : ∀ (l cur : B8), ∀ p ∈ cutG c cur l, p.length ≤ cur.length + l.length
 | [], cur, p, h => by simp [cutG] at h; subst h; simp
 | b :: l, cur, p, h => by
   unfold cutG at h; split at h
   · rcases List.mem_cons.1 h with rfl | h
     · simp
     · have := cutG_size c l [] p h; simp at this ⊢; omega
   · have := cutG_size c l _ p h; simp at this ⊢; omega
theorem cutG_pre (c : UInt8) : ∀ (a cur l : B8), (∀ b ∈ a, b ≠ c) → cutG c cur (a ++ l) = cutG c (cur ++ a) l
 | [], cur, l, _ => by simp
 | b :: a, cur, l, h => by
   rw [List.cons_append]; show (if b = c then _ else _) = _
   rw [if_neg (h b (by simp)), cutG_pre c a _ l (fun x hx => h x (by simp [hx]))]; simp
theorem cutG_hit (c : UInt8) (cur l : B8) : cutG c cur (c :: l) = cur :: cutG c [] l := by
 show (if c = c then _ else _) = _
 rw [if_pos rfl]
theorem dg_num : ∀ n : Fin 65, ((dg n.val).length < 1 ∨ 7 < (dg n.val).length) = false ∧ (dg n.val).all dgt = true ∧ valD 0 (dg n.val) = (n.val : Int) ∧ ((dg n.val).all fun b => b != 124 && b != 44) = true := by decide +kernel
theorem num_dec {v : Int} (h0 : 0 ≤ v) (h1 : v ≤ 64) : numN (dec v) = v ∧ ∀ b ∈ dec v, b ≠ 124 ∧ b ≠ 44 := by
 obtain ⟨a1, a2, a3, a4⟩ := dg_num ⟨v.toNat, by omega⟩; have e : dec v = dg v.toNat := dec_dg (by omega); dsimp only at a1 a2 a3 a4; have hv : ((v.toNat : Nat) : Int) = v := by omega
 constructor
 · unfold numN
   rw [e, if_neg (by rw [a1]; simp), if_pos a2, a3, hv, if_neg]; rintro (h | h)
   · omega
   · exact h (dec_dg (by omega))
 · rw [e]
   intro b hb; have := List.all_eq_true.1 a4 b hb; simpa using this
def rowT : List Int → B8
 | [] => []
 | v :: r => dec v ++ slotsT 1 r
def Okv (r : List Int) : Prop := ∀ v ∈ r, 0 ≤ v ∧ v ≤ (64 : Int)
theorem slots_no : ∀ (r : List Int) (s : Nat), Okv r → ∀ b ∈ slotsT (s + 1) r, b ≠ 124
 | [], _, _, b, h => by simp [slotsT] at h
 | v :: r, s, hr, b, h => by
   have hv := hr v (by simp); simp only [slotsT, List.cons_append, List.mem_cons, List.mem_append] at h; rcases h with rfl | h | h
   · simp [aheadF]
   · exact ((num_dec hv.1 hv.2).2 b h).1
   · exact slots_no r (s + 1) (fun x hx => hr x (by simp [hx])) b h
theorem rowT_no {r : List Int} (h : Okv r) : ∀ b ∈ rowT r, b ≠ 124 := by
 cases r with
 | nil => intro b hb; simp [rowT] at hb
 | cons v r =>
   intro b hb; have hv := h v (by simp); rcases List.mem_append.1 hb with hb | hb
   · exact ((num_dec hv.1 hv.2).2 b hb).1
   · exact slots_no r 0 (fun x hx => h x (by simp [hx])) b hb
theorem slots_row {r : List Int} (h : r ≠ []) : slotsT 0 r = 124 :: rowT r := by
 cases r with
 | nil => exact absurd rfl h
 | cons v r => rfl
theorem cut_rows : ∀ (ls : Rws) (cur : B8), (∀ r ∈ ls, r ≠ [] ∧ Okv r) → cutG 124 cur (ls.flatMap (slotsT 0)) = cur :: ls.map rowT
 | [], cur, _ => rfl
 | r :: ls, cur, h => by
   have hr := h r (by simp); rw [List.flatMap_cons, slots_row hr.1, List.cons_append, cutG_hit, cutG_pre 124 _ _ _ (rowT_no hr.2), List.nil_append, cut_rows ls _ (fun x hx => h x (by simp [hx]))]; rfl
theorem cut_slots : ∀ (r : List Int) (s : Nat) (cur : B8), Okv r → cutG 44 cur (slotsT (s + 1) r) = cur :: r.map dec
 | [], _, _, _ => rfl
 | v :: r, s, cur, h => by
   have hv := h v (by simp); have e : slotsT (s + 1) (v :: r) = 44 :: (dec v ++ slotsT (s + 2) r) := by simp [slotsT, aheadF]
   rw [e, cutG_hit, cutG_pre 44 _ _ _ (fun b hb => ((num_dec hv.1 hv.2).2 b hb).2), List.nil_append, cut_slots r (s + 1) _ (fun x hx => h x (by simp [hx]))]; rfl
theorem row_num {r : List Int} (hr : Okv r) : (r.map dec).map numN = r := by
 rw [List.map_map]; conv => rhs; rw [← List.map_id r]
 refine List.map_congr_left fun v hv => ?_
 have := hr v hv; exact (num_dec this.1 this.2).1
theorem row_read {r : List Int} (hne : r ≠ []) (hr : Okv r) : rowN (rowT r) = r := by
 cases r with
 | nil => exact absurd rfl hne
 | cons v r =>
   have hv := hr v (by simp); unfold rowN; rw [rowT, cutG_pre 44 _ _ _ (fun b hb => ((num_dec hv.1 hv.2).2 b hb).2), List.nil_append, cut_slots r 0 _ (fun x hx => hr x (by simp [hx]))]; exact row_num hr
theorem read_text {n : Int} {ls : Rws} (h : rightF n ls = true) : headN (hTextF n ls) = n ∧ rowsN (hTextF n ls) = ls := by
 obtain ⟨h1, h4, hl⟩ := right_len h; have hr := right_rows h; have hok : ∀ r ∈ ls, r ≠ [] ∧ Okv r := fun r hx => by
  obtain ⟨e, hv⟩ := hr r hx; refine ⟨fun h0 => by rw [h0] at e; simp at e; omega, fun v hv' => by have := hv v hv'; omega⟩
 have hn := num_dec (v := n) (by omega) (by omega); have hc : cutG 124 [] (hTextF n ls) = dec n :: ls.map rowT := by
  unfold hTextF; rw [if_pos h, cutG_pre 124 _ _ _ (fun b hb => (hn.2 b hb).1), List.nil_append, cut_rows ls _ hok]
 unfold headN rowsN; rw [hc]; refine ⟨hn.1, ?_⟩; rw [List.drop_one, List.tail_cons, List.map_map]; conv => rhs; rw [← List.map_id ls]
 exact List.map_congr_left fun r hx => row_read (hok r hx).1 (hok r hx).2
theorem heapF_read (t : B8) : heapF t = if hTextF (headN t) (rowsN t) = t ∧ t ≠ [63] then some (headN t, rowsN t) else none := by
 by_cases h : hTextF (headN t) (rowsN t) = t ∧ t ≠ [63]
 · rw [if_pos h]
   have hR : rightF (headN t) (rowsN t) = true := by
    cases e : rightF (headN t) (rowsN t) with
    | true => rfl
    | false =>
      have := h.1; unfold hTextF at this; rw [e] at this; exact absurd this.symm h.2
   conv => lhs; rw [← h.1]
   exact heapF_of hR
 · rw [if_neg h]
   cases e : heapF t with
   | none => rfl
   | some x =>
     exfalso
     obtain ⟨n, ls⟩ := x; obtain ⟨h1, h2⟩ := heapF_text e; obtain ⟨a1, a2⟩ := read_text h1; rw [h2] at a1 a2; apply h
     refine ⟨by rw [a1, a2]; exact h2, fun h0 => ?_⟩; rw [h0, heapF_wrong] at e; cases e
section
variable {P : Program} {ops : Array Oper} {Q : Exit → Act → World → Prop} {md : Region.Mode} {S : World → Prop} {br : List Nat}
def unl (br : List Nat) (l : Array Bool) : Bool := br.all fun b => l.getD b true == false
theorem unl_set {l : Array Bool} {i : Nat} (hi : i ∉ br) : unl br (l.setIfInBounds i true) = unl br l := by
 unfold unl; rw [Bool.eq_iff_iff, List.all_eq_true, List.all_eq_true]; constructor
 · intro h b hb
   have := h b hb; rwa [getD_set_ne true (show i ≠ b from fun e => hi (by rw [e]; exact hb))] at this
 · intro h b hb
   rw [getD_set_ne true (show i ≠ b from fun e => hi (by rw [e]; exact hb))]; exact h b hb
def wpAnyB (P : Program) (md : Region.Mode) (ops : Array Oper) (Q : Exit → Act → World → Prop) (S : World → Prop) (br : List Nat) : Nat → Array Bool → Act → World → Prop
 | 0, l, a, w => Region.ready md ops l = [] ∧ Q .normal a w
 | fuel + 1, l, a, w =>
   (Region.ready md ops l = [] → Q .normal a w) ∧
   ∀ i ∈ Region.ready md ops l, wpOp P ops Q i (fun a' w' => (unl br (l.setIfInBounds i true) = true → S w') ∧ wpAnyB P md ops Q S br fuel (l.setIfInBounds i true) a' w') a w
theorem wpAny_of_B : ∀ (fuel : Nat) (l : Array Bool) (a : Act) (w : World), wpAnyB P md ops Q S br fuel l a w → wpAny P md ops Q fuel l a w
 | 0, _, _, _, h => h
 | fuel + 1, _, _, _, h => ⟨h.1, fun i hi => wpOp_mono (fun a' w' h' => wpAny_of_B fuel _ a' w' h'.2) (h.2 i hi)⟩
def ClosedL (md : Region.Mode) (ops : Array Oper) (l : Array Bool) : Prop := ∀ k o, ops[k]? = some o → l.getD k false = true → ∀ e ∈ o.after, Region.binds md e = true → l.getD e.on false = true
def closedB (md : Region.Mode) (ops : Array Oper) (l : Array Bool) : Bool := (List.range ops.size).all fun k => !(l.getD k false) || (match ops[k]? with | some o => o.after.all (fun e => !(Region.binds md e) || l.getD e.on false) | none => true)
theorem closedB_spec {l : Array Bool} (h : closedB md ops l = true) : ClosedL md ops l := by
 intro k o ho hk e he hb; have hlt : k < ops.size := (Array.getElem?_eq_some_iff.1 ho).1; have := List.all_eq_true.1 h k (List.mem_range.2 hlt); rw [ho, hk, Bool.not_true, Bool.false_or] at this; have := Array.all_eq_true'.1 this e he; rw [hb, Bool.not_true, Bool.false_or] at this; exact this
theorem ClosedL.set {l : Array Bool} {j : Nat} (h : ClosedL md ops l) (hj : j ∈ Region.ready md ops l) : ClosedL md ops (l.setIfInBounds j true) := by
 intro k o ho hk e he hb; refine getD_set_true ?_; by_cases hjk : j = k
 · subst hjk
   obtain ⟨_, oj, hoj, hall⟩ := mem_ready.1 hj; rw [hoj] at ho; cases ho
   exact hall e he hb
 · rw [getD_set_ne false hjk] at hk
   exact h k o ho hk e he hb
def depB (md : Region.Mode) (ops : Array Oper) (i : Nat) : Nat → Nat → Bool
 | 0, _ => false
 | f + 1, b => match ops[b]? with | some ob => ob.after.any (fun e => Region.binds md e && (e.on == i || depB md ops i f e.on)) | none => false
theorem dep_spec {l : Array Bool} (hc : ClosedL md ops l) {i : Nat} : ∀ (f b : Nat) (ob : Oper), ops[b]? = some ob → (∀ e ∈ ob.after, Region.binds md e = true → l.getD e.on false = true) → depB md ops i f b = true → l.getD i false = true
 | 0, _, _, _, _, h => by cases h
 | f + 1, b, ob, ho, hall, h => by
   rw [depB, ho] at h; simp only [Array.any_eq_true', Bool.and_eq_true, Bool.or_eq_true, beq_iff_eq] at h; obtain ⟨e, he, hb, h⟩ := h; have hl := hall e he hb; rcases h with h | h
   · rwa [h] at hl
   · cases ho2 : ops[e.on]? with
     | none =>
       cases f with
       | zero => cases h
       | succ f => rw [depB, ho2] at h; cases h
     | some o2 => exact dep_spec hc f e.on o2 ho2 (hc e.on o2 ho2 hl) h
def waitB (md : Region.Mode) (ops : Array Oper) (br : List Nat) (i : Nat) : Bool := br.all fun b => depB md ops i ops.size b
theorem wpAnyB_first {T : World → Prop} {i : Nat} {oi : Oper} {v : Value} (hi : ops[i]? = some oi) (hib : i ∉ br) (hsel : ∀ (j : Nat) (o : Oper) cs b, ops[j]? = some o → o.op ≠ .select cs b)
 (hQ : ∀ c a w, Q (.panic c) (a.put oi.dst v) w → Q (.panic c) a w) (hT : (∀ w, T w) ∨ ((∀ w, S w → T w) ∧ waitB md ops br i = true)) :
 ∀ (fuel : Nat) (l : Array Bool) (a : Act) (w : World),
   (∀ j oj, ops[j]? = some oj → j ≠ i → l.getD j true = false → (∀ e ∈ oj.after, Region.binds md e = true → e.on ≠ i) → oi.apart ops oj = true) →
   i ∈ Region.ready md ops l → YieldsIf P ops T oi v a → ((∀ w, T w) ∨ (unl br l = true ∧ ClosedL md ops l)) → (unl br l = true → S w) → T w →
   wpAnyB P md ops Q S br fuel (l.setIfInBounds i true) (a.put oi.dst v) w → wpAnyB P md ops Q S br (fuel + 1) l a w := by
 intro fuel; induction fuel with
 | zero =>
   intro l a w _ hr hy hu hS hw H; refine ⟨fun h => (by rw [h] at hr; cases hr), fun j hj => ?_⟩; by_cases hji : j = i
   · subst hji; exact hy.wpOp hi hw ⟨fun h => hS (by rwa [unl_set hib] at h), H⟩
   · have := ready_mono hj hji
     rw [H.1] at this; cases this
 | succ fuel ih =>
   intro l a w hfree hr hy hu hS hw H; refine ⟨fun h => (by rw [h] at hr; cases hr), fun j hj => ?_⟩; by_cases hji : j = i
   · subst hji; exact hy.wpOp hi hw ⟨fun h => hS (by rwa [unl_set hib] at h), H⟩
   · have h1 := H.2 j (ready_mono hj hji)
     obtain ⟨hjun, oj, hoj, hall⟩ := mem_ready.1 hj; have hnot : ∀ e ∈ oj.after, Region.binds md e = true → e.on ≠ i := fun e he hb heq => by
      have h1 := hall e he hb; have h0 := (mem_ready.1 hr).1; rw [heq] at h1; rcases Nat.lt_or_ge i l.size with h' | h'
      · simp [h'] at h0 h1; rw [h0] at h1; cases h1
      · simp [Array.getElem?_eq_none h'] at h1
     have h2 := wpOp_putIf hoj (hfree j oj hoj hji hjun hnot) (fun cs b => hsel i oi cs b hi) (fun cs b => hsel j oj cs b hoj) hQ hy h1; have hfree' : ∀ k ok, ops[k]? = some ok → k ≠ i → (l.setIfInBounds j true).getD k true = false →
      (∀ e ∈ ok.after, Region.binds md e = true → e.on ≠ i) → oi.apart ops ok = true := fun k ok hk hki hun hno => by
      refine hfree k ok hk hki ?_ hno; by_cases hjk : j = k
      · subst hjk; exact hjun
      · rw [getD_set_ne true hjk] at hun; exact hun
     have hu' : (∀ w, T w) ∨ (unl br (l.setIfInBounds j true) = true ∧ ClosedL md ops (l.setIfInBounds j true)) := by
      rcases hT with hT | ⟨_, hT⟩
      · exact .inl hT
      · rcases hu with hu | ⟨hu, hc⟩
        · exact .inl hu
        · refine .inr ⟨?_, hc.set hj⟩
          rw [unl_set]
          · exact hu
          · intro hjb
            have h1 := dep_spec hc _ j oj hoj hall (List.all_eq_true.1 hT j hjb); have h0 := (mem_ready.1 hr).1; rcases Nat.lt_or_ge i l.size with h' | h'
            · simp [h'] at h0 h1; rw [h0] at h1; cases h1
            · simp [Array.getElem?_eq_none h'] at h1
     refine wpOp_mono (fun a' w' h3 => ?_) h2; have hs' : unl br (l.setIfInBounds j true) = true → S w' := fun h => h3.2.1 (by
      rw [Array.setIfInBounds_comm _ _ (Ne.symm hji), unl_set hib]; exact h)
     refine ⟨hs', ih (l.setIfInBounds j true) a' w' hfree' (ready_mono hr (Ne.symm hji)) h3.1 hu' hs' ?_ ?_⟩
     · rcases hu' with h | h
       · exact h w'
       · rcases hT with hT | hT
         · exact hT w'
         · exact hT.1 w' (hs' h.1)
     · rw [Array.setIfInBounds_comm _ _ hji]
       exact h3.2.2
theorem wpAnyB_pure {i : Nat} {oi : Oper} {v : Value} {fuel : Nat} {l : Array Bool} {a : Act} {w : World} (hi : ops[i]? = some oi) (hib : br.contains i = false)
 (hs : Region.noSelect ops = true) (hf : Region.free md ops l i = true) (hr : (Region.ready md ops l).contains i = true)
 (hQ : ∀ c a w, Q (.panic c) (a.put oi.dst v) w → Q (.panic c) a w) (hy : YieldsIf P ops (fun _ => True) oi v a) (hS : unl br l = true → S w)
 (h : wpAnyB P md ops Q S br fuel (l.setIfInBounds i true) (a.put oi.dst v) w) : wpAnyB P md ops Q S br (fuel + 1) l a w :=
 wpAnyB_first hi (fun hm => by rw [List.contains_iff_mem.2 hm] at hib; cases hib) (Region.noSelect_spec hs) hQ (.inl fun _ => trivial) fuel l a w (Region.free_spec hi hf) (by simpa using hr) hy (.inl fun _ => trivial) hS trivial h
theorem wpAnyB_take {i : Nat} {oi : Oper} {v : Value} {fuel : Nat} {l : Array Bool} {a : Act} {w : World} (hi : ops[i]? = some oi) (hib : br.contains i = false) (hu : unl br l = true) (hcl : closedB md ops l = true) (hwt : waitB md ops br i = true)
 (hs : Region.noSelect ops = true) (hf : Region.free md ops l i = true) (hr : (Region.ready md ops l).contains i = true)
 (hQ : ∀ c a w, Q (.panic c) (a.put oi.dst v) w → Q (.panic c) a w) (hy : YieldsIf P ops S oi v a) (hS : S w)
 (h : wpAnyB P md ops Q S br fuel (l.setIfInBounds i true) (a.put oi.dst v) w) : wpAnyB P md ops Q S br (fuel + 1) l a w :=
 wpAnyB_first hi (fun hm => by rw [List.contains_iff_mem.2 hm] at hib; cases hib) (Region.noSelect_spec hs) hQ (.inr ⟨fun _ h => h, hwt⟩) fuel l a w (Region.free_spec hi hf) (by simpa using hr) hy (.inr ⟨hu, closedB_spec hcl⟩) (fun _ => hS) hS h
def AllReadyB (P : Program) (md : Region.Mode) (ops : Array Oper) (Q : Exit → Act → World → Prop) (S : World → Prop) (br : List Nat) (fuel : Nat) (l : Array Bool) (a : Act) (w : World) (rs : List Nat) : Prop :=
 ∀ i ∈ rs, wpOp P ops Q i (fun a' w' => (unl br (l.setIfInBounds i true) = true → S w') ∧ wpAnyB P md ops Q S br fuel (l.setIfInBounds i true) a' w') a w
theorem AllReadyB.nil {fuel : Nat} {l : Array Bool} {a : Act} {w : World} : AllReadyB P md ops Q S br fuel l a w [] := fun _ h => by cases h
theorem AllReadyB.cons {fuel : Nat} {l : Array Bool} {a : Act} {w : World} {i : Nat} {o : Oper} {rs : List Nat} (ho : ops[i]? = some o)
 (h : ∀ K' : Act → World → Prop, Shut (∀ a w, S w → (S w → wpAnyB P md ops Q S br fuel (l.setIfInBounds i true) a w) → K' a w) → if Region.wanted o (yielded ops a.tmps) = true then Oper.wp P o a w K' Q else K' (a.put o.dst undef) w)
 (hs : AllReadyB P md ops Q S br fuel l a w rs) : AllReadyB P md ops Q S br fuel l a w (i :: rs) := fun j hj => by
 rcases List.mem_cons.1 hj with rfl | hj
 · exact wpOp_step ho (fun K' hK => h K' (fun a w hS hW => hK a w ⟨fun _ => hS, hW hS⟩))
 · exact hs j hj
theorem AllReadyB.last {fuel : Nat} {l : Array Bool} {a : Act} {w : World} {i : Nat} {o : Oper} {rs : List Nat} (ho : ops[i]? = some o) (hu : unl br (l.setIfInBounds i true) = false)
 (h : ∀ K' : Act → World → Prop, Shut (∀ a w, wpAnyB P md ops Q S br fuel (l.setIfInBounds i true) a w → K' a w) → if Region.wanted o (yielded ops a.tmps) = true then Oper.wp P o a w K' Q else K' (a.put o.dst undef) w)
 (hs : AllReadyB P md ops Q S br fuel l a w rs) : AllReadyB P md ops Q S br fuel l a w (i :: rs) := fun j hj => by
 rcases List.mem_cons.1 hj with rfl | hj
 · exact wpOp_step ho (fun K' hK => h K' (fun a w hW => hK a w ⟨(fun e => by rw [hu] at e; exact absurd e (by decide)), hW⟩))
 · exact hs j hj
theorem wpAnyB_ready {rs : List Nat} {fuel : Nat} {l : Array Bool} {a : Act} {w : World} (hr : Region.ready md ops l = rs) (hne : rs ≠ []) (h : AllReadyB P md ops Q S br fuel l a w rs) : wpAnyB P md ops Q S br (fuel + 1) l a w :=
 ⟨fun h0 => absurd (hr ▸ h0) hne, hr ▸ h⟩
theorem wpAnyB_done {l : Array Bool} {a : Act} {w : World} (hr : Region.ready md ops l = []) (h : Q .normal a w) : ∀ fuel, wpAnyB P md ops Q S br fuel l a w
 | 0 => ⟨hr, h⟩
 | _ + 1 => ⟨fun _ => h, by rw [hr]; simp⟩
theorem wp_region_B {id : Nat} {a : Act} {w : World} (br : List Nat) (hm : P.follows .mixedOrders = true) (hS : S w.drew)
 (h : S w.drew → wpAnyB P .any ops Q S br ops.size (Array.replicate ops.size false) a w.drew) : (Code.region id ops true).wp P Q a w :=
 wp_region_any hm (wpAny_of_B _ _ _ _ (h hS))
end
theorem drop_at {α : Type} {l : Array α} {i : Nat} {x : α} {xs : List α} (h : l.toList.drop i = x :: xs) : l[i]? = some x := by
 have := List.head?_drop (l := l.toList) (i := i); rw [h] at this; simpa using this.symm
section
variable {P : Program} {md : Region.Mode} {ops : Array Oper} {Q : Exit → Act → World → Prop} {S : World → Prop}
theorem tk (i : Nat) {oi : Oper} {rest : List Oper} {v : Value} {fuel : Nat} {l : Array Bool} {a b : Act} {w : World} (h : wpAnyH P md ops Q S fuel (l.setIfInBounds i true) b w) (hi : ops.toList.drop i = oi :: rest := by rfl)
 (hs : Region.noSelect ops = true := by kernel_rfl) (hf : Region.free md ops l i = true := by kernel_rfl) (hr : (Region.ready md ops l).contains i = true := by kernel_rfl)
 (hQ : ∀ c a w, Q (.panic c) (a.put oi.dst v) w → Q (.panic c) a w := by exact fun _ _ _ h => h) (hw : Region.wanted oi (yielded ops a.tmps) = true := by rfl)
 (hy : ∀ w_, S w_ → (execOp a.eval oi).run P w_ = .ok (.value v) w_ := by intro w_ hSw; (try dsimp only at hSw); go_simp; (try with_reducible rfl)) (hS : S w := by assumption)
 (hb : a.put oi.dst v = b := by (try simp only [Act.put, lA, lB, lC]); (try with_reducible rfl)) : wpAnyH P md ops Q S (fuel + 1) l a w :=
 wpAnyH_take (drop_at (l := ops) hi) hs hf hr hQ (.inl ⟨hw, hy⟩) hS (hb ▸ h)
theorem tu (i : Nat) {oi : Oper} {rest : List Oper} {fuel : Nat} {l : Array Bool} {a b : Act} {w : World} (h : wpAnyH P md ops Q S fuel (l.setIfInBounds i true) b w) (hi : ops.toList.drop i = oi :: rest := by rfl)
 (hs : Region.noSelect ops = true := by kernel_rfl) (hf : Region.free md ops l i = true := by kernel_rfl) (hr : (Region.ready md ops l).contains i = true := by kernel_rfl)
 (hQ : ∀ c a w, Q (.panic c) (a.put oi.dst undef) w → Q (.panic c) a w := by exact fun _ _ _ h => h) (hw : Region.wanted oi (yielded ops a.tmps) = false := by rfl) (hS : S w := by assumption)
 (hb : a.put oi.dst undef = b := by (try simp only [Act.put, lA, lB, lC]); (try with_reducible rfl)) : wpAnyH P md ops Q S (fuel + 1) l a w :=
 wpAnyH_take (drop_at (l := ops) hi) hs hf hr hQ (.inr ⟨hw, rfl⟩) hS (hb ▸ h)
theorem tp {br : List Nat} (i : Nat) {oi : Oper} {rest : List Oper} {v : Value} {fuel : Nat} {l : Array Bool} {a b : Act} {w : World} (h : wpAnyB P md ops Q S br fuel (l.setIfInBounds i true) b w) (hi : ops.toList.drop i = oi :: rest := by rfl) (hib : br.contains i = false := by kernel_rfl)
 (hs : Region.noSelect ops = true := by kernel_rfl) (hf : Region.free md ops l i = true := by kernel_rfl) (hr : (Region.ready md ops l).contains i = true := by kernel_rfl)
 (hQ : ∀ c a w, Q (.panic c) (a.put oi.dst v) w → Q (.panic c) a w := by exact fun _ _ _ h => h) (hw : Region.wanted oi (yielded ops a.tmps) = true := by rfl)
 (hy : ∀ w_, (fun _ : World => True) w_ → (execOp a.eval oi).run P w_ = .ok (.value v) w_ := by intro w_ hSw; (try dsimp only at hSw); go_simp; (try with_reducible rfl)) (hS : S w := by assumption)
 (hb : a.put oi.dst v = b := by (try simp only [Act.put, lA, lB, lC]); (try with_reducible rfl)) : wpAnyB P md ops Q S br (fuel + 1) l a w :=
 wpAnyB_pure (drop_at (l := ops) hi) hib hs hf hr hQ (.inl ⟨hw, hy⟩) (fun _ => hS) (hb ▸ h)
theorem tq {br : List Nat} (i : Nat) {oi : Oper} {rest : List Oper} {v : Value} {fuel : Nat} {l : Array Bool} {a b : Act} {w : World} (h : wpAnyB P md ops Q S br fuel (l.setIfInBounds i true) b w) (hi : ops.toList.drop i = oi :: rest := by rfl) (hib : br.contains i = false := by kernel_rfl)
 (hs : Region.noSelect ops = true := by kernel_rfl) (hf : Region.free md ops l i = true := by kernel_rfl) (hr : (Region.ready md ops l).contains i = true := by kernel_rfl)
 (hQ : ∀ c a w, Q (.panic c) (a.put oi.dst v) w → Q (.panic c) a w := by exact fun _ _ _ h => h) (hw : Region.wanted oi (yielded ops a.tmps) = true := by rfl)
 (hy : ∀ w_, (fun _ : World => True) w_ → (execOp a.eval oi).run P w_ = .ok (.value v) w_ := by intro w_ hSw; (try dsimp only at hSw); go_simp; (try with_reducible rfl)) (hu : unl br l = false := by kernel_rfl)
 (hb : a.put oi.dst v = b := by (try simp only [Act.put, lA, lB, lC]); (try with_reducible rfl)) : wpAnyB P md ops Q S br (fuel + 1) l a w :=
 wpAnyB_pure (drop_at (l := ops) hi) hib hs hf hr hQ (.inl ⟨hw, hy⟩) (fun e => Bool.noConfusion (hu.symm.trans e)) (hb ▸ h)
theorem tb {br : List Nat} (i : Nat) {oi : Oper} {rest : List Oper} {v : Value} {fuel : Nat} {l : Array Bool} {a b : Act} {w : World} (h : wpAnyB P md ops Q S br fuel (l.setIfInBounds i true) b w) (hi : ops.toList.drop i = oi :: rest := by rfl) (hib : br.contains i = false := by kernel_rfl)
 (hu : unl br l = true := by kernel_rfl) (hcl : closedB md ops l = true := by kernel_rfl) (hwt : waitB md ops br i = true := by kernel_rfl)
 (hs : Region.noSelect ops = true := by kernel_rfl) (hf : Region.free md ops l i = true := by kernel_rfl) (hr : (Region.ready md ops l).contains i = true := by kernel_rfl)
 (hQ : ∀ c a w, Q (.panic c) (a.put oi.dst v) w → Q (.panic c) a w := by exact fun _ _ _ h => h) (hw : Region.wanted oi (yielded ops a.tmps) = true := by rfl)
 (hy : ∀ w_, S w_ → (execOp a.eval oi).run P w_ = .ok (.value v) w_ := by intro w_ hSw; (try dsimp only at hSw); go_simp; (try with_reducible rfl)) (hS : S w := by assumption)
 (hb : a.put oi.dst v = b := by (try simp only [Act.put, lA, lB, lC]); (try with_reducible rfl)) : wpAnyB P md ops Q S br (fuel + 1) l a w :=
 wpAnyB_take (drop_at (l := ops) hi) hib hu hcl hwt hs hf hr hQ (.inl ⟨hw, hy⟩) hS (hb ▸ h)
def skipsH (md : Region.Mode) (ops : Array Oper) : List Nat → List (Option Nat) → Array Bool → Act → Bool
 | [], [], _, _ => true
 | i :: is, d :: ds, l, a => match ops[i]? with
   | none => false
   | some oi => oi.dst == d && (Region.free md ops l i && ((Region.ready md ops l).contains i && (!Region.wanted oi (yielded ops a.tmps) && skipsH md ops is ds (l.setIfInBounds i true) (a.put d undef))))
 | _, _, _, _ => false
def listH (l : Array Bool) (is : List Nat) : Array Bool := is.foldl (fun l i => l.setIfInBounds i true) l
def putsH (a : Act) (ds : List (Option Nat)) : Act := ds.foldl (fun a d => a.put d undef) a
theorem skips_go (hs : Region.noSelect ops = true) (hQ : ∀ c (a : Act) d w, Q (.panic c) (a.put d undef) w → Q (.panic c) a w) {w : World} (hS : S w) {fuel : Nat} :
 ∀ (is : List Nat) (ds : List (Option Nat)) (l : Array Bool) (a : Act), skipsH md ops is ds l a = true → wpAnyH P md ops Q S fuel (listH l is) (putsH a ds) w → wpAnyH P md ops Q S (fuel + is.length) l a w
 | [], [], _, _, _, h => h
 | i :: is, d :: ds, l, a, hk, h => by
   rw [skipsH] at hk; split at hk
   · cases hk
   · rename_i oi hi
     simp only [Bool.and_eq_true, beq_iff_eq, Bool.not_eq_true'] at hk; obtain ⟨rfl, h1, h2, h3, h4⟩ := hk; exact wpAnyH_take (fuel := fuel + is.length) hi hs h1 h2 (fun c a w => hQ c a _ w) (.inr ⟨h3, rfl⟩) hS (skips_go hs hQ hS is ds _ _ h4 h)
 | [], _ :: _, _, _, hk, _ => by cases hk
 | _ :: _, [], _, _, hk, _ => by cases hk
theorem ts (m : Nat) (is : List Nat) (ds : List (Option Nat)) {F : Nat} {l : Array Bool} {a b : Act} {w : World} (hm : is.length = m := by rfl) (hF : m ≤ F := by decide)
 (hs : Region.noSelect ops = true := by kernel_rfl) (hk : skipsH md ops is ds l a = true := by kernel_rfl)
 (hQ : ∀ c (a : Act) d w, Q (.panic c) (a.put d undef) w → Q (.panic c) a w := by exact fun _ _ _ _ h => h) (hS : S w := by assumption)
 (hb : putsH a ds = b := by (try simp only [putsH, List.foldl_cons, List.foldl_nil, Act.put, List.setIfInBounds_toArray, List.set_cons_zero, List.set_cons_succ]); (try with_reducible rfl))
 (h : wpAnyH P md ops Q S (F - m) (listH l is) b w) : wpAnyH P md ops Q S F l a w := by
 subst hm hb; have := skips_go (P := P) (fuel := F - is.length) hs hQ hS is ds l a hk h; rwa [Nat.sub_add_cancel hF] at this
theorem r1 (i : Nat) {o : Oper} {rest : List Oper} {fuel : Nat} {l : Array Bool} {a : Act} {w : World}
 (h : ∀ K' : Act → World → Prop, Shut (∀ a w, S w → (S w → wpAnyH P md ops Q S fuel (l.setIfInBounds i true) a w) → K' a w) → if Region.wanted o (yielded ops a.tmps) = true then Oper.wp P o a w K' Q else K' (a.put o.dst undef) w)
 (ho : ops.toList.drop i = o :: rest := by rfl) (hr : Region.ready md ops l = [i] := by kernel_rfl) : wpAnyH P md ops Q S (fuel + 1) l a w :=
 wpAnyH_ready hr (by simp) (AllReadyH.cons (drop_at (l := ops) ho) h AllReadyH.nil)
theorem rb1 {br : List Nat} (i : Nat) {o : Oper} {rest : List Oper} {fuel : Nat} {l : Array Bool} {a : Act} {w : World}
 (h : ∀ K' : Act → World → Prop, Shut (∀ a w, S w → (S w → wpAnyB P md ops Q S br fuel (l.setIfInBounds i true) a w) → K' a w) → if Region.wanted o (yielded ops a.tmps) = true then Oper.wp P o a w K' Q else K' (a.put o.dst undef) w)
 (ho : ops.toList.drop i = o :: rest := by rfl) (hr : Region.ready md ops l = [i] := by kernel_rfl) : wpAnyB P md ops Q S br (fuel + 1) l a w :=
 wpAnyB_ready hr (by simp) (AllReadyB.cons (drop_at (l := ops) ho) h AllReadyB.nil)
theorem rb2 {br : List Nat} (i j : Nat) {o o2 : Oper} {rest rest2 : List Oper} {fuel : Nat} {l : Array Bool} {a : Act} {w : World}
 (h : ∀ K' : Act → World → Prop, Shut (∀ a w, S w → (S w → wpAnyB P md ops Q S br fuel (l.setIfInBounds i true) a w) → K' a w) → if Region.wanted o (yielded ops a.tmps) = true then Oper.wp P o a w K' Q else K' (a.put o.dst undef) w)
 (h2 : ∀ K' : Act → World → Prop, Shut (∀ a w, S w → (S w → wpAnyB P md ops Q S br fuel (l.setIfInBounds j true) a w) → K' a w) → if Region.wanted o2 (yielded ops a.tmps) = true then Oper.wp P o2 a w K' Q else K' (a.put o2.dst undef) w)
 (ho : ops.toList.drop i = o :: rest := by rfl) (ho2 : ops.toList.drop j = o2 :: rest2 := by rfl) (hr : Region.ready md ops l = [i, j] := by kernel_rfl) : wpAnyB P md ops Q S br (fuel + 1) l a w :=
 wpAnyB_ready hr (by simp) (AllReadyB.cons (drop_at (l := ops) ho) h (AllReadyB.cons (drop_at (l := ops) ho2) h2 AllReadyB.nil))
end
theorem lA {α : Type} (l : List α) (i : Nat) (a : α) : l.toArray.setIfInBounds i a = (l.set i a).toArray := List.setIfInBounds_toArray l i a
theorem lB {α : Type} {x : α} {xs : List α} {a : α} : (x :: xs).set 0 a = a :: xs := List.set_cons_zero
theorem lC {α : Type} {x : α} {xs : List α} {n : Nat} {a : α} : (x :: xs).set (n + 1) a = x :: xs.set n a := List.set_cons_succ
theorem go_ {S : World → Prop} {R K : Act → World → Prop} (hK : Shut (∀ a w, S w → (S w → R a w) → K a w)) {a b : Act} {w : World} (hS : S w) (h : S w → R b w) (hb : a = b := by (try simp only [Act.put, lA, lB, lC]); (try with_reducible rfl)) : K a w := by
 subst hb; exact hK.out _ _ hS h
abbrev PC (w : World) (B : Nat) (v0 v1 v2 v3 v4 v5 v6 v7 v8 v9 va vb vc vd : Value) : Prop := w.cell? ⟨B, 0, none⟩ = some v0 ∧ w.cell? ⟨B, 1, none⟩ = some v1 ∧ w.cell? ⟨B, 2, none⟩ = some v2 ∧ w.cell? ⟨B, 3, none⟩ = some v3 ∧ w.cell? ⟨B, 4, none⟩ = some v4 ∧ w.cell? ⟨B, 5, none⟩ = some v5 ∧ w.cell? ⟨B, 6, none⟩ = some v6 ∧
 w.cell? ⟨B, 7, none⟩ = some v7 ∧ w.cell? ⟨B, 8, none⟩ = some v8 ∧ w.cell? ⟨B, 9, none⟩ = some v9 ∧ w.cell? ⟨B, 10, none⟩ = some va ∧ w.cell? ⟨B, 11, none⟩ = some vb ∧ w.cell? ⟨B, 12, none⟩ = some vc ∧ w.cell? ⟨B, 13, none⟩ = some vd
open Go.Lib (indexByte)
theorem idx_none {c : UInt8} {l : List UInt8} (h : indexByte l c < 0) : c ∉ l := by
 have := Go.Lib.indexByte_ge l c; have h1 := Go.Lib.indexByte_none (show indexByte l c = -1 by omega); intro hm; obtain ⟨k, hk⟩ := List.mem_iff_getElem?.1 hm; exact h1 k hk
theorem idx_some {c : UInt8} {l : List UInt8} {i : Nat} (h : indexByte l c = (i : Int)) : i < l.length ∧ l = l.take i ++ c :: l.drop (i + 1) ∧ c ∉ l.take i := by
 obtain ⟨h1, h2⟩ := Go.Lib.indexByte_some h; obtain ⟨hi, he⟩ := List.getElem?_eq_some_iff.1 h1; refine ⟨hi, ?_, fun hm => ?_⟩
 · rw [← he]; simp
 · obtain ⟨k, hk⟩ := List.mem_iff_getElem?.1 hm
   rw [List.getElem?_take] at hk; split at hk
   · rename_i hlt; exact h2 k hlt hk
   · cases hk
theorem idx_cases (l : List UInt8) (c : UInt8) : (indexByte l c = -1 ∧ c ∉ l) ∨ ∃ i : Nat, indexByte l c = (i : Int) ∧ i < l.length ∧ l = l.take i ++ c :: l.drop (i + 1) ∧ c ∉ l.take i := by
 by_cases h : indexByte l c < 0
 · left; have := Go.Lib.indexByte_ge l c; exact ⟨by omega, idx_none h⟩
 · right; exact ⟨(indexByte l c).toNat, by omega, idx_some (by omega)⟩
inductive Sd where
 | reg (x : Int) | plc (x y : Int) | fre | non | bad
deriving DecidableEq
def sideF (t : List UInt8) : Sd :=
 if t = [110, 101, 119] then .fre else if t = [48] then .non else match t with
  | [x] => .reg ((x.toNat : Int) - 65)
  | [x, y, z] => if y = 46 then .plc ((x.toNat : Int) - 65) ((z.toNat : Int) - 48) else .bad
  | _ => .bad
def opF : Sd → Sd → Option Oq
 | .plc a s, .reg r => some ⟨2, r, a, s⟩
 | .reg r, .plc a s => some ⟨1, r, a, s⟩
 | .reg r, .fre => some ⟨3, r, 0, 0⟩
 | .reg r, .non => some ⟨5, r, 0, 0⟩
 | .reg r, .reg q => some ⟨4, r, q, 0⟩
 | _, _ => none
def eqCut : List UInt8 → List UInt8 × List UInt8
 | [] => ([], [])
 | b :: t => if b = 61 then ([], t) else (b :: (eqCut t).1, (eqCut t).2)
def readFCd (t : List UInt8) : Option Oq := match opF (sideF (eqCut t).1) (sideF (eqCut t).2) with | none => none | some o => if cText o = t then some o else none
theorem eqCut_none : ∀ {t : List UInt8}, (61 : UInt8) ∉ t → eqCut t = (t, [])
 | [], _ => rfl
 | b :: t, h => by
   have hb : b ≠ 61 := fun e => h (by simp [e])
   rw [eqCut, if_neg hb, eqCut_none fun hm => h (List.mem_cons_of_mem _ hm)]
theorem eqCut_some : ∀ {p r : List UInt8}, (61 : UInt8) ∉ p → eqCut (p ++ 61 :: r) = (p, r)
 | [], _, _ => rfl
 | b :: p, r, h => by
   have hb : b ≠ 61 := fun e => h (by simp [e])
   rw [List.cons_append, eqCut, if_neg hb, eqCut_some fun hm => h (List.mem_cons_of_mem _ hm)]
theorem read_all : ∀ x ∈ cAll, readFCd (cText x) = some x := by decide +kernel
theorem readF_is (t : List UInt8) : readFCd t = cOne t := by
 cases hc : cOne t with
 | some o =>
   obtain ⟨h1, h2⟩ := one_some hc; rw [← h2]; exact read_all o (mem_all.2 h1)
 | none =>
   unfold readFCd; cases ho : opF (sideF (eqCut t).1) (sideF (eqCut t).2) with
   | none => rfl
   | some o =>
     simp only
     split
     · rename_i he
       exfalso
       cases hr : cRight o 4 4 with
       | true => rw [← he, one_text hr] at hc; cases hc
       | false =>
         rw [(text_no o).2 hr] at he; rw [← he] at ho; rw [show opF (sideF (eqCut [63]).1) (sideF (eqCut [63]).2) = none by decide] at ho; cases ho
     · rfl
end Go.Proofs.YtjbaiibbgplljaaGreatDoor
namespace Go.Proofs.YtjbaiibbgplljaaGreatDoor
open Go.RowKit
section
variable {P : Program} {f : FuncId} {a : Act} {w : World} {Q : Exit → Act → World → Prop}
def WpAt (P : Program) (f : FuncId) (c : Code) (Q : Exit → Act → World → Prop) (a : Act) (w : World) : Prop :=
 ∀ (b : Frame) (k : List Item) (cs : List Frame), b.roundOf = none → b.fn = f →
   ∃ e a' w', Q e a' w' ∧ ArrivesIn (Machine.fenced P Fence.wide) P (lone (b.atR a (.code c :: k)) cs w) b k cs e a' w'
theorem WpAt.of_wp {n : Nat} {c : Code} (h : c.wpIn Fence.wide n P Q a w) : WpAt P f c Q a w := fun b k cs hro _ => h b k cs hro trivial (room_wide _)
theorem WpAt.seq {x y : Code} (h : WpAt P f x (Exit.then (WpAt P f y Q) Q) a w) : WpAt P f (.seq x y) Q a w := by
 intro b k cs hro hb; have s0 := StepsIn.one (fenced_wide P (lone (b.atR a (.code (.seq x y) :: k)) cs w)) (stepR_seq (P := P)); obtain ⟨e, a1, w1, hq, ha⟩ := h b (.code y :: k) cs hro hb; by_cases hn : e = .normal
 · subst hn
   obtain ⟨e2, a2, w2, hq2, ha2⟩ := hq b k cs hro hb; exact ⟨e2, a2, w2, hq2, (ArrivesIn.of_steps (s0.trans ha) ha2)⟩
 · refine ⟨e, a1, w1, by cases e <;> first | exact hq | exact absurd rfl hn, .of_steps s0 (.pass (x := .code y) rfl (fun _ _ => .inl hn) ha)⟩
theorem WpAt.block {id : Nat} {c : Code} (h : WpAt P f c (fun e a' w' => (e = .normal ∧ Q .normal a' w') ∨ ∃ ch, e = .panic ch ∧ Q (.panic ch) a' w') a w) : WpAt P f (.block id c) Q a w := by
 intro b k cs hro hb; have s0 := StepsIn.one (fenced_wide P (lone (b.atR a (.code (.block id c) :: k)) cs w)) (stepR_block (P := P)); obtain ⟨e, a1, w1, hq, ha⟩ := h b (.inBlock id :: k) cs hro hb; rcases hq with ⟨rfl, hq⟩ | ⟨ch, rfl, hq⟩
 · exact ⟨.normal, a1, w1, hq, (s0.trans ha).trans (.one (fenced_wide P _) (stepR_inBlock (P := P)))⟩
 · obtain ⟨todo, hs⟩ := ha
   exact ⟨_, a1, w1, hq, todo, s0.trans hs⟩
theorem roundP {fd : Func} (hf : P.funcs[f]? = some fd) {n l : Nat} {tmps : Array Value} {assign body : Code} {R : Ending → World → Prop}
 (h : assign.wpIn (Fence.wide.inRound l) n P (Exit.then (fun a1 w1 => ∃ w2, (Instr.beginRound l).run P w1 = .ok () w2 ∧ body.wpIn (Fence.wide.inRound l) n P
  (fun e a3 w3 => (e = .normal ∧ ∃ v w4, (Instr.endRound l none).run P w3 = .ok v w4 ∧ R (.returned v) w4) ∨ ∃ ch, e = .panic ch ∧ a3.defers = [] ∧ R (.panicked ch) w3) a1 w2) (fun _ _ _ => False)) { tmps := tmps, defers := [] } w) :
 RoundIn Fence.wide n P l f tmps assign body w R := by
 refine ⟨trivial, fun c cs _ => ?_⟩; obtain ⟨b, eb⟩ : ∃ b : Frame, b = { (default : Frame) with fn := f, kind := .normal, roundOf := some l } := ⟨_, rfl⟩; have e0 : Frame.round l f tmps assign body .normal = b.atR { tmps := tmps, defers := [] } [.code assign, .beginRound, .code body] := by subst eb; simp [Frame.round, Frame.atR]
 have h1 : b.roundOf = some l := by rw [eb]
 have h2 : b.kind = .normal := by rw [eb]
 have h3 : b.fn = f := by rw [eb]
 obtain ⟨e, a1, w1, hq, ha⟩ := h b [.beginRound, .code body] (c :: cs) h1 trivial (fun _ hd => by simp [Fence.wide] at hd); rw [← e0] at ha; cases e with
 | normal =>
   obtain ⟨w2, hbr, hbody⟩ := hq; have s1 := StepsIn.one (fenced_wide P (lone (b.atR a1 [.beginRound, .code body]) (c :: cs) w1)) (stepR_beginRound h1 hbr); obtain ⟨e2, a3, w3, hq2, ha2⟩ := hbody b [] (c :: cs) h1 trivial (fun _ hd => by simp [Fence.wide] at hd); rcases hq2 with ⟨rfl, v, w4, hend, hR⟩ | ⟨ch, rfl, hd, hR⟩
   · exact ⟨.returned v, w4, hR, StepsIn.trans ha (s1.trans (StepsIn.trans ha2 (.one (fenced_wide P _) (stepR_round_end h1 h2 hend))))⟩
   · obtain ⟨todo, hs⟩ := ha2
     refine ⟨.panicked ch, w3, hR, StepsIn.trans ha (s1.trans (hs.trans (.one (fenced_wide P _) (step_leave_panicked ⟨rfl, ?_, fd, ?_⟩))))⟩
     · show (b.atR a3 todo).defers = []
       simp [Frame.atR, hd]
     · show P.funcs[(b.atR a3 todo).fn]? = some fd
       simp [Frame.atR, h3, hf]
 | _ => exact hq.elim
theorem WpAt.rangeFunc {g : Operand} {ps : Array Tmp} {assign body : Code} {gf : FuncId} {lb : Array Value} (hg : a.eval g = .func (.func gf) #[] lb) (eg : ∀ args w, (callFunc gf args).run P w = .ok (.enter gf args) w)
 (h : CallsIn Fence.wide 0 P gf (#[.func (.yield (w.heap.size + 1)) #[] #[]] ++ lb)
  ((w.alloc (.deferred (some []))).alloc (.loop { state := .ready, pending := none, fn := f, tmps := a.tmps, params := ps, assign := assign, body := body, defers := w.heap.size }))
  (fun e w3 => (∃ v w4, e = .returned v ∧ (Instr.endLoop (w.heap.size + 1)).run P w3 = .ok none w4 ∧ Q .normal { a with defers := { target := .collected w.heap.size, args := #[] } :: a.defers } w4) ∨
   ∃ ch, e = .panicked ch ∧ Q (.panic ch) { a with defers := { target := .collected w.heap.size, args := #[] } :: a.defers } w3)) :
 WpAt P f (.rangeFunc g ps assign body) Q a w := by
 intro b k cs hro hb; subst hb; have he := run_enterLoop_outer (P := P) (w := w) b.fn a.tmps ps assign body; rw [← hro] at he; obtain ⟨W1, hW1⟩ : ∃ W1, (w.alloc (.deferred (some []))).alloc (.loop { state := .ready, pending := none, fn := b.fn, tmps := a.tmps, params := ps, assign := assign, body := body, defers := w.heap.size }) = W1 := ⟨_, rfl⟩; rw [hW1] at he h; have hres : (resolve a.eval (rangeCall g (w.heap.size + 1)) 0).run P W1 = .ok { target := .fn (.func gf) lb, args := #[.func (.yield (w.heap.size + 1)) #[] #[]] } W1 := by
  simp only [resolve, hg]; simp [go_sem]
 have hinv : (invoke (.fn (.func gf) lb) #[.func (.yield (w.heap.size + 1)) #[] #[]]).run P W1 = .ok (.enter gf (#[.func (.yield (w.heap.size + 1)) #[] #[]] ++ lb)) W1 := by simp [invoke, go_sem, eg]
 have s1 := stepR_rangeFunc (b := b) (k := k) (cs := cs) he hres hinv; obtain ⟨e, w3, fr, hR, hs, -, hl⟩ := h.2 (b.atR { a with defers := [{ target := .collected w.heap.size, args := #[] }] ++ a.defers } (.inRangeFunc (w.heap.size + 1) :: k) :: cs) (room_wide _); rcases hR with ⟨v, w4, rfl, hend, hQ⟩ | ⟨ch, rfl, hQ⟩
 · refine ⟨.normal, _, w4, hQ, StepsIn.head (fenced_wide P _) s1 (StepsIn.trans hs (.head (fenced_wide P _) (step_leave_returned hl) ?_))⟩
   rw [finish_atR_inRangeFunc]; exact .one (fenced_wide P _) (stepR_endRangeFunc hend)
 · refine ⟨.panic ch, _, w3, hQ, .inRangeFunc (w.heap.size + 1) :: k, StepsIn.head (fenced_wide P _) s1 (StepsIn.trans hs (.one (fenced_wide P _) ?_))⟩
   rw [← Frame.raise_atR]; exact step_leave_panicked hl
theorem callsAt {n : Nat} {fd : Func} {c : Code} {args : Array Value} {R : Ending → World → Prop} (hf : P.funcs[f]? = some fd) (hc : fd.body = some c)
 (h : WpAt P f c (fun e a' w' => (e = .ret ∧ LeavesInM Fence.wide n P fd a'.tmps R a'.defers .returning w') ∨ ∃ ch, e = .panic ch ∧ LeavesInM Fence.wide n P fd a'.tmps R a'.defers (.panicking ch) w')
  { tmps := args ++ Array.replicate (fd.ntmps - args.size) undef, defers := [] } w) : CallsIn Fence.wide n P f args w R := by
 refine ⟨trivial, fun cs hr => ?_⟩; obtain ⟨b, eb⟩ : ∃ b : Frame, b = { (default : Frame) with fn := f, kind := .normal, roundOf := none } := ⟨_, rfl⟩; have e0 : Frame.enter P f args .normal = b.atR { tmps := args ++ Array.replicate (fd.ntmps - args.size) undef, defers := [] } [.code c] := by subst eb; simp [Frame.enter, Frame.atR, hf, hc]
 have h1 : b.roundOf = none := by rw [eb]
 have h3 : b.fn = f := by rw [eb]
 obtain ⟨e, a', w', hq, ha⟩ := h b [] cs h1 h3; rw [← e0] at ha; have hk : (b.atR a' []).kind = .normal := by simp [Frame.atR, eb]
 rcases hq with ⟨rfl, hL⟩ | ⟨ch, rfl, hL⟩
 · obtain ⟨todo, hs⟩ := ha.1 h1
   obtain ⟨e', w2, fr, hR, hs2, hfn, hl⟩ := leaves_stepsInM a'.defers .returning w' { b.atR a' todo with mode := .returning } cs rfl (by simp [Frame.atR]) (by simp [Frame.atR]) (by simp [Frame.atR, h3, hf]) (by simp [Frame.atR, eb]) trivial hr hL; exact ⟨e', w2, fr, hR, ComesIn.of_steps hs hs2, by rw [hfn]; simp [Frame.atR, h3], hl⟩
 · obtain ⟨todo, hs⟩ := ha
   obtain ⟨e', w2, fr, hR, hs2, hfn, hl⟩ := leaves_stepsInM a'.defers (.panicking ch) w' { b.atR a' todo with mode := .panicking ch } cs rfl (by simp [Frame.atR]) (by simp [Frame.atR]) (by simp [Frame.atR, h3, hf]) (by simp [Frame.atR, eb]) trivial hr hL; exact ⟨e', w2, fr, hR, ComesIn.of_steps hs hs2, by rw [hfn]; simp [Frame.atR, h3], hl⟩
end
end Go.Proofs.YtjbaiibbgplljaaGreatDoor
namespace Go.Proofs.YtjbaiibbgplljaaGreatDoor
theorem ofF_snoc (l : List Int) (k : Nat) (h : k < l.length) : ofF (l.take (k + 1)) = addF (ofF (l.take k)) l[k] := by
 rw [List.take_succ_eq_append_getElem h, ofF, List.foldl_append]; rfl
section
variable {F : Fence} {n : Nat} {P : Program} {ops : Array Oper} {Q : Exit → Act → World → Prop} {md : Region.Mode}
def allOrders (md : Region.Mode) (ops : Array Oper) : Nat → Array Bool → List (List Nat)
 | 0, _ => [[]]
 | fuel + 1, listed => match Region.ready md ops listed with
   | [] => [[]]
   | i :: r => (i :: r).flatMap fun j => (allOrders md ops fuel (listed.setIfInBounds j true)).map (j :: ·)
theorem orders_mem : ∀ (fuel t : Nat) (listed : Array Bool), Region.linearise.go md ops fuel t listed [] ∈ allOrders md ops fuel listed
 | 0, t, listed => by simp [Region.linearise.go, allOrders]
 | fuel + 1, t, listed => by
   simp only [Region.linearise.go, allOrders]; change (match (Region.ready md ops listed)[t % (Region.ready md ops listed).length]? with
    | some i => Region.linearise.go md ops fuel (t / (Region.ready md ops listed).length) (listed.setIfInBounds i true) [i]
    | none => [].reverse) ∈ _
   cases hr : Region.ready md ops listed with
   | nil => simp
   | cons x xs =>
     have hlt : t % (x :: xs).length < (x :: xs).length := Nat.mod_lt _ (by simp); rw [List.getElem?_eq_getElem hlt]; simp only
     rw [linearise_go_acc, List.reverse_singleton, List.singleton_append, List.mem_flatMap]; exact ⟨_, List.getElem_mem hlt, List.mem_map.2 ⟨_, orders_mem fuel _ _, rfl⟩⟩
theorem wpOpsIn_list : ∀ (o : List Nat), wpOpsIn F n P ops Q o = wpListIn F n P ops Q (o.filterMap fun i => ops[i]?)
 | [] => by funext a w; simp [wpOpsIn, wpListIn]
 | i :: o => by
   funext a w
   have ih := wpOpsIn_list o; cases h : ops[i]? with
   | none => simp only [wpOpsIn, h, List.filterMap_cons, ih]
   | some x => simp only [wpOpsIn, h, List.filterMap_cons, wpListIn, ih]
theorem wpIn_region_orders {id : Nat} {a : Act} {w : World} {L : List (List Nat)} (hm : P.follows .mixedOrders = true) (hL : allOrders .any ops ops.size (Array.replicate ops.size false) = L)
 (h : ∀ o ∈ L, wpListIn F n P ops Q (o.filterMap fun i => ops[i]?) a w.drew) : (Code.region id ops true).wpIn F n P Q a w :=
 wpIn_region_draw fun t => by
  simp only [Region.schedule, hm, Bool.true_or, if_true]; rw [wpOpsIn_list]; refine h _ ?_; rw [← hL]; exact orders_mem _ _ _
end
