/- Layer set: more plain facts: what was added, taken out; what is under. No program in this text. -/
import Derived.Test.YtnodloeiabbliaaDoorSetT
namespace Go.Proofs.YtnodloeiabbliaaDoor

theorem bit_in (s : Nat) (hs : s < 18446744073709551616) (a : Int) (ha : 1 ≤ a ∧ a ≤ 64) : hasF (addF s a) a = true := by
  obtain ⟨i, rfl⟩ : ∃ i : Nat, a = (i : Int) + 1 := ⟨(a - 1).toNat, by omega⟩
  rw [has_bit _ _ (by omega), testBit_add]; simp; omega
theorem bit_out (s : Nat) (hs : s < 18446744073709551616) (a : Int) (ha : 1 ≤ a ∧ a ≤ 64) : hasF (delF s a) a = false := by
  obtain ⟨i, rfl⟩ : ∃ i : Nat, a = (i : Int) + 1 := ⟨(a - 1).toNat, by omega⟩
  rw [has_bit _ _ (by omega), testBit_del hs]; simp
theorem in_other (s : Nat) (a b : Int) (hb : 1 ≤ b ∧ b ≤ 64) (h : a ≠ b) : hasF (addF s a) b = hasF s b := by
  obtain ⟨i, rfl⟩ : ∃ i : Nat, b = (i : Int) + 1 := ⟨(b - 1).toNat, by omega⟩
  rw [has_bit _ _ (by omega), has_bit _ _ (by omega), testBit_add, decide_eq_false (by omega), Bool.or_false]
theorem out_other (s : Nat) (hs : s < 18446744073709551616) (a b : Int) (hb : 1 ≤ b ∧ b ≤ 64) (h : a ≠ b) : hasF (delF s a) b = hasF s b := by
  obtain ⟨i, rfl⟩ : ∃ i : Nat, b = (i : Int) + 1 := ⟨(b - 1).toNat, by omega⟩
  rw [has_bit _ _ (by omega), has_bit _ _ (by omega), testBit_del hs, decide_eq_false (by omega)]; simp
theorem del_add (s : Nat) (hs : s < 18446744073709551616) (a : Int) : delF (addF s a) a = delF s a :=
  set_ext (del_lt (add_lt hs a) a) (del_lt hs a) fun i hi => by
    rw [testBit_del (add_lt hs a), testBit_del hs, testBit_add]
    cases h : decide ((i : Int) + 1 = a)
    · rw [decide_eq_false (by simp at h; omega)]; simp
    · simp
theorem add_del (s : Nat) (hs : s < 18446744073709551616) (a : Int) : addF (delF s a) a = addF s a :=
  set_ext (add_lt (del_lt hs a) a) (add_lt hs a) fun i hi => by
    rw [testBit_add, testBit_add, testBit_del hs]
    by_cases h : (i : Int) + 1 = a
    · rw [decide_eq_true (show (i : Int) + 1 = a ∧ i < 64 from ⟨h, hi⟩)]; simp
    · rw [decide_eq_false h]; simp
/-- one more -/
theorem filter_one (p q : Nat → Bool) (k : Nat) (hp : p k = true) (hq : q k = false) (h : ∀ i, i ≠ k → p i = q i) : ∀ n, k < n → ((List.range n).filter p).length = ((List.range n).filter q).length + 1 := by
  intro n hk
  obtain ⟨d, rfl⟩ : ∃ d, n = (k + 1) + d := ⟨n - (k + 1), by omega⟩
  rw [List.range_add, List.range_succ]
  simp only [List.filter_append, List.length_append]
  have a1 : ((List.range k).filter p) = ((List.range k).filter q) := List.filter_congr fun i hi => h i (by have := List.mem_range.1 hi; omega)
  have a2 : (((List.range d).map fun x => k + 1 + x).filter p) = (((List.range d).map fun x => k + 1 + x).filter q) := List.filter_congr fun i hi => by
    obtain ⟨j, _, rfl⟩ := List.mem_map.1 hi; exact h _ (by omega)
  have a3 : ([k].filter p).length = 1 := by simp [hp]
  have a4 : ([k].filter q).length = 0 := by simp [hq]
  rw [a1, a2, a3, a4]; omega
theorem cnt_one (s : Nat) (hs : s < 18446744073709551616) (a : Int) (ha : 1 ≤ a ∧ a ≤ 64) : cntF (addF s a) = cntF (delF s a) + 1 := by
  obtain ⟨k, rfl⟩ : ∃ i : Nat, a = (i : Int) + 1 := ⟨(a - 1).toNat, by omega⟩
  unfold cntF objs
  rw [List.length_map, List.length_map]
  refine filter_one _ _ k ?_ ?_ ?_ 64 (by omega)
  · rw [testBit_add]; simp; omega
  · rw [testBit_del hs]; simp
  · intro i hi
    rw [testBit_add, testBit_del hs, decide_eq_false (by omega), decide_eq_false (by omega)]; simp
theorem one_of (s : Nat) (hs : s < 18446744073709551616) (a : Int) (ha : 1 ≤ a ∧ a ≤ 64) : s = addF s a ∨ (s ≠ addF s a ∧ s = delF s a) := by
  by_cases h : s = addF s a
  · exact .inl h
  · refine .inr ⟨h, ?_⟩
    obtain ⟨k, rfl⟩ : ∃ i : Nat, a = (i : Int) + 1 := ⟨(a - 1).toNat, by omega⟩
    have hb : s.testBit k = false := by
      cases hk : s.testBit k with
      | false => rfl
      | true =>
        exact absurd (set_ext hs (add_lt hs _) fun i hi => by
          rw [testBit_add]
          by_cases hik : i = k
          · subst hik; rw [hk]; rfl
          · rw [decide_eq_false (by omega), Bool.or_false]) h
    exact set_ext hs (del_lt hs _) fun i hi => by
      rw [testBit_del hs]
      by_cases hik : i = k
      · subst hik; rw [hb]; rfl
      · rw [decide_eq_false (by omega)]; simp

theorem cnt_del_le (s : Nat) (hs : s < 18446744073709551616) (a : Int) (ha : 1 ≤ a ∧ a ≤ 64) : cntF (addF s a) ≤ cntF s + 1 := by
  rcases one_of s hs a ha with h | ⟨_, h⟩
  · rw [← h]; omega
  · rw [cnt_one s hs a ha, ← h]; omega
theorem cnt_fold (l : List Int) : ∀ s : Nat, s < 18446744073709551616 → cntF (l.foldl addF s) ≤ cntF s + l.length := by
  induction l with
  | nil => intro s _; simp
  | cons o l ih =>
    intro s hs
    rw [List.foldl_cons, List.length_cons]
    have h1 := ih _ (add_lt hs o)
    by_cases ho : 1 ≤ o ∧ o ≤ 64
    · have := cnt_del_le s hs o ho; omega
    · have : addF s o = s := by unfold addF onlyF; rw [if_neg ho]; simp
      rw [this] at h1 ⊢; omega
theorem cnt_of (l : List Int) : cntF (ofF l) ≤ l.length := by
  have h0 : cntF 0 = 0 := by unfold cntF; rw [objs_zero]; rfl
  have := cnt_fold l 0 (by decide)
  rw [h0] at this
  unfold ofF; omega

theorem filter_le (p q : Nat → Bool) (h : ∀ i, p i = true → q i = true) : ∀ l : List Nat, (l.filter p).length ≤ (l.filter q).length
  | [] => by simp
  | a :: l => by
    have ih := filter_le p q h l
    rw [List.filter_cons, List.filter_cons]
    cases hp : p a
    · simp only [Bool.false_eq_true, if_false]
      split
      · rw [List.length_cons]; omega
      · exact ih
    · rw [if_pos rfl, if_pos (h a hp), List.length_cons, List.length_cons]; omega
theorem filter_eq (p q : Nat → Bool) (h : ∀ i, p i = true → q i = true) : ∀ l : List Nat, (l.filter p).length = (l.filter q).length → ∀ i ∈ l, q i = true → p i = true
  | [], _, _, hi, _ => by cases hi
  | a :: l, he, i, hi, hq => by
    have hle := filter_le p q h l
    rw [List.filter_cons, List.filter_cons] at he
    cases hp : p a
    · rw [hp] at he
      simp only [Bool.false_eq_true, if_false] at he
      cases hqa : q a
      · rw [hqa] at he
        simp only [Bool.false_eq_true, if_false] at he
        rcases List.mem_cons.1 hi with rfl | hi
        · rw [hq] at hqa; cases hqa
        · exact filter_eq p q h l he i hi hq
      · rw [hqa, if_pos rfl, List.length_cons] at he; omega
    · rw [hp, h a hp, if_pos rfl, if_pos rfl, List.length_cons, List.length_cons] at he
      rcases List.mem_cons.1 hi with rfl | hi
      · exact hp
      · exact filter_eq p q h l (by omega) i hi hq
theorem under_cnt {a b : Nat} (ha : a < 18446744073709551616) (hb : b < 18446744073709551616) (h : underF a b = true) : cntF a ≤ cntF b := by
  have hu := (under_iff ha hb).1 h
  unfold cntF objs
  rw [List.length_map, List.length_map]
  refine filter_le _ _ (fun i hi => hu i (testBit_high ha hi) hi) _
theorem under_self {a : Nat} (ha : a < 18446744073709551616) : underF a a = true := (under_iff ha ha).2 fun _ _ h => h
theorem under_trans {a b c : Nat} (ha : a < 18446744073709551616) (hb : b < 18446744073709551616) (hc : c < 18446744073709551616) (h1 : underF a b = true) (h2 : underF b c = true) : underF a c = true :=
  (under_iff ha hc).2 fun i hi h => (under_iff hb hc).1 h2 i hi ((under_iff ha hb).1 h1 i hi h)
theorem under_both {a b : Nat} (ha : a < 18446744073709551616) (hb : b < 18446744073709551616) (h1 : underF a b = true) : underF b a = decide (a = b) := by
  rw [Bool.eq_iff_iff, decide_eq_true_eq]
  constructor
  · intro h2
    exact set_ext ha hb fun i hi => by
      rw [Bool.eq_iff_iff]
      exact ⟨(under_iff ha hb).1 h1 i hi, (under_iff hb ha).1 h2 i hi⟩
  · rintro rfl; exact under_self ha
theorem or_lt {a b : Nat} (ha : a < 18446744073709551616) (hb : b < 18446744073709551616) : a ||| b < 18446744073709551616 := by
  rw [← p64] at *; exact Nat.or_lt_two_pow ha hb
theorem of_both {a b : Nat} (ha : a < 18446744073709551616) (hb : b < 18446744073709551616) : ofF (objs a ++ objs b) = a ||| b :=
  set_ext (ofF_lt _) (or_lt ha hb) fun i hi => by
    rw [ofF_bit _ _ hi, Nat.testBit_or, ← has_bit a i hi, ← has_bit b i hi, Bool.eq_iff_iff]
    simp only [decide_eq_true_eq, List.mem_append, mem_objs, Bool.or_eq_true]
theorem under_or {a b : Nat} (ha : a < 18446744073709551616) (hb : b < 18446744073709551616) : underF a b = decide (cntF (a ||| b) = cntF b) := by
  rw [Bool.eq_iff_iff, decide_eq_true_eq]
  constructor
  · intro h
    have : a ||| b = b := set_ext (or_lt ha hb) hb fun i hi => by
      rw [Nat.testBit_or]
      cases hai : a.testBit i with
      | false => rfl
      | true => rw [(under_iff ha hb).1 h i hi hai]; rfl
    rw [this]
  · intro h
    unfold cntF objs at h
    rw [List.length_map, List.length_map] at h
    have := filter_eq (fun i => b.testBit i) (fun i => (a ||| b).testBit i) (fun i hi => by rw [Nat.testBit_or, hi]; simp) (List.range 64) h.symm
    exact (under_iff ha hb).2 fun i hi hai => this i (List.mem_range.2 hi) (by rw [Nat.testBit_or, hai]; rfl)
theorem del_under {a : Nat} (ha : a < 18446744073709551616) (o : Int) : underF (delF a o) a = true :=
  (under_iff (del_lt ha o) ha).2 fun i _ h => by rw [testBit_del ha] at h; simp at h; exact h.1
theorem under_all {a : Nat} (ha : a < 18446744073709551616) : underF a (firstF 64) = true :=
  (under_iff ha (first_lt _)).2 fun i hi _ => by rw [first_bit, decide_eq_true_eq]; omega
theorem none_under {a : Nat} : underF 0 a = true := by unfold underF; simp
end Go.Proofs.YtnodloeiabbliaaDoor
