/- Layer tint: what the chapter asks, as plain functions on two sets, and what follows. No program in this text. -/
import Derived.Test.YtpffknlbffnafaaDoorSetP
namespace Go.Proofs.YtpffknlbffnafaaDoor

def tOf (m b : Nat) (o : Int) : Int := if hasF m o = true then (if hasF b o = true then 2 else 1) else 0
def tGreys (m b : Nat) : Nat := m &&& (18446744073709551615 - b)
def tRight (m b : Nat) (n : Int) : Bool := underF b m && underF m (firstF n)
/-- is o as Shade asks? -/
def tFree (m b : Nat) (o : Int) : Bool := decide (1 ≤ o ∧ o ≤ 64) && (!hasF m o && !hasF b o)
def tGrey (m b : Nat) (o : Int) : Bool := hasF m o && !hasF b o
def shM (m b : Nat) (o : Int) : Nat := if tFree m b o = true then addF m o else m
def scB (m b : Nat) (o : Int) : Nat := if tGrey m b o = true then addF b o else b
def frB (m b : Nat) (o : Int) : Nat := if tFree m b o = true then addF b o else b
/-- which turn of o leads from (m, b) to (p, q), which are not the same -/
def tTurned (m b p q : Nat) (o : Int) : Int :=
  if p = shM m b o ∧ q = b then 1 else if p = m ∧ q = scB m b o then 2 else if p = shM m b o ∧ q = frB m b o then 3 else -1
def tLook (m b p q : Nat) : Nat → Int → Int × Int
  | 0, _ => (-1, 0)
  | f + 1, o => if tTurned m b p q o ≠ -1 then (tTurned m b p q o, o) else tLook m b p q f (o + 1)
def tBetween (m b p q : Nat) : Int × Int := if m = p ∧ b = q then (0, 0) else tLook m b p q 64 1
def tLetter (c : Int) : UInt8 := if c = 0 then 119 else if c = 1 then 103 else 98
def tText (m b : Nat) (n : Int) : List UInt8 := (objs (firstF n)).map fun o => tLetter (tOf m b o)

theorem tOf_rng (m b : Nat) (o : Int) : 0 ≤ tOf m b o ∧ tOf m b o ≤ 2 := by unfold tOf; split <;> (try split) <;> omega
theorem tOf_no (m b : Nat) (o : Int) (h : hasF m o = false) : tOf m b o = 0 := by unfold tOf; rw [h]; rfl
theorem tOf_grey (m b : Nat) (o : Int) (h : hasF m o = true) (h' : hasF b o = false) : tOf m b o = 1 := by unfold tOf; rw [h, h']; rfl
theorem tOf_black (m b : Nat) (o : Int) (h : hasF m o = true) (h' : hasF b o = true) : tOf m b o = 2 := by unfold tOf; rw [h, h']; rfl
theorem tGreys_lt {m : Nat} (b : Nat) (hm : m < 18446744073709551616) : tGreys m b < 18446744073709551616 := Nat.lt_of_le_of_lt Nat.and_le_left hm
theorem shM_lt {m : Nat} (b : Nat) (o : Int) (hm : m < 18446744073709551616) : shM m b o < 18446744073709551616 := by unfold shM; split; exact add_lt hm o; exact hm
theorem scB_lt (m : Nat) {b : Nat} (o : Int) (hb : b < 18446744073709551616) : scB m b o < 18446744073709551616 := by unfold scB; split; exact add_lt hb o; exact hb
theorem frB_lt (m : Nat) {b : Nat} (o : Int) (hb : b < 18446744073709551616) : frB m b o < 18446744073709551616 := by unfold frB; split; exact add_lt hb o; exact hb
theorem has_add (s : Nat) (o i : Int) : hasF (addF s o) i = (hasF s i || decide (i = o ∧ 1 ≤ o ∧ o ≤ 64)) := by
  by_cases h : 1 ≤ i ∧ i ≤ 64
  · obtain ⟨k, rfl⟩ : ∃ k : Nat, i = (k : Int) + 1 := ⟨(i - 1).toNat, by omega⟩
    rw [has_bit _ _ (by omega), has_bit _ _ (by omega), testBit_add]
    congr 1
    rw [decide_eq_decide]; omega
  · rw [has_no _ _ h, has_no _ _ h, decide_eq_false (by omega)]; rfl
theorem has_in {s : Nat} {o : Int} (h : hasF s o = true) : 1 ≤ o ∧ o ≤ 64 := by
  apply Decidable.byContradiction
  intro h'; rw [has_no _ _ h'] at h; cases h
theorem has_ext {a b : Nat} (ha : a < 18446744073709551616) (hb : b < 18446744073709551616) (h : ∀ i : Int, 1 ≤ i → i ≤ 64 → hasF a i = hasF b i) : a = b :=
  set_ext ha hb fun i hi => by rw [← has_bit a i hi, ← has_bit b i hi]; exact h _ (by omega) (by omega)
theorem under_has {a b : Nat} (ha : a < 18446744073709551616) (hb : b < 18446744073709551616) : underF a b = true ↔ ∀ i : Int, hasF a i = true → hasF b i = true := by
  rw [under_iff ha hb]
  constructor
  · intro h i hi
    have hr := has_in hi
    obtain ⟨k, rfl⟩ : ∃ k : Nat, i = (k : Int) + 1 := ⟨(i - 1).toNat, by omega⟩
    rw [has_bit _ _ (by omega)] at *
    exact h k (by omega) hi
  · intro h i hi ht
    rw [← has_bit _ _ hi] at *
    exact h _ ht
theorem and_lt' {a : Nat} (b : Nat) (ha : a < 18446744073709551616) : a &&& b < 18446744073709551616 := Nat.lt_of_le_of_lt Nat.and_le_left ha
theorem has_and (a b : Nat) (i : Int) : hasF (a &&& b) i = (hasF a i && hasF b i) := by
  by_cases h : 1 ≤ i ∧ i ≤ 64
  · obtain ⟨k, rfl⟩ : ∃ k : Nat, i = (k : Int) + 1 := ⟨(i - 1).toNat, by omega⟩
    rw [has_bit _ _ (by omega), has_bit _ _ (by omega), has_bit _ _ (by omega), Nat.testBit_and]
  · rw [has_no _ _ h, has_no _ _ h, has_no _ _ h]; rfl
theorem has_or (a b : Nat) (i : Int) : hasF (a ||| b) i = (hasF a i || hasF b i) := by
  by_cases h : 1 ≤ i ∧ i ≤ 64
  · obtain ⟨k, rfl⟩ : ∃ k : Nat, i = (k : Int) + 1 := ⟨(i - 1).toNat, by omega⟩
    rw [has_bit _ _ (by omega), has_bit _ _ (by omega), has_bit _ _ (by omega), Nat.testBit_or]
  · rw [has_no _ _ h, has_no _ _ h, has_no _ _ h]; rfl
theorem free_iff {m b : Nat} {o : Int} : tFree m b o = true ↔ (1 ≤ o ∧ o ≤ 64) ∧ hasF m o = false ∧ hasF b o = false := by
  unfold tFree; simp [and_assoc]
theorem grey_iff {m b : Nat} {o : Int} : tGrey m b o = true ↔ hasF m o = true ∧ hasF b o = false := by unfold tGrey; simp

/-- a turn: kind 1 shades, 2 scans, 3 makes fresh -/
def tkM (k : Int) (m b : Nat) (o : Int) : Nat := if k = 2 then m else shM m b o
def tkB (k : Int) (m b : Nat) (o : Int) : Nat := if k = 1 then b else if k = 2 then scB m b o else frB m b o
def tkOk (k : Int) (m b : Nat) (o : Int) : Bool := if k = 2 then tGrey m b o else tFree m b o
theorem tkM_lt (k : Int) {m : Nat} (b : Nat) (o : Int) (hm : m < 18446744073709551616) : tkM k m b o < 18446744073709551616 := by unfold tkM; split; exact hm; exact shM_lt b o hm
theorem tkB_lt (k : Int) (m : Nat) {b : Nat} (o : Int) (hb : b < 18446744073709551616) : tkB k m b o < 18446744073709551616 := by
  unfold tkB; split; exact hb; split; exact scB_lt m o hb; exact frB_lt m o hb
theorem tk_no {k : Int} {m b : Nat} {o : Int} (h : tkOk k m b o = false) : tkM k m b o = m ∧ tkB k m b o = b := by
  unfold tkOk at h; unfold tkM tkB shM scB frB
  by_cases h2 : k = 2
  · subst h2; simp at h ⊢; simp [h]
  · simp [h2] at h ⊢; simp [h]
/-- what a turn that is done does to each object -/
theorem tk_has {k : Int} (hk : k = 1 ∨ k = 2 ∨ k = 3) {m b : Nat} {o : Int} (h : tkOk k m b o = true) (i : Int) :
    (1 ≤ o ∧ o ≤ 64) ∧ hasF b o = false ∧ hasF m o = decide (k = 2) ∧
    hasF (tkM k m b o) i = (hasF m i || (decide (k ≠ 2) && decide (i = o))) ∧ hasF (tkB k m b o) i = (hasF b i || (decide (k ≠ 1) && decide (i = o))) := by
  rcases hk with rfl | rfl | rfl
  · have hf : tFree m b o = true := h
    obtain ⟨hr, h1, h2⟩ := free_iff.1 hf
    refine ⟨hr, h2, by rw [h1]; rfl, ?_, ?_⟩
    · show hasF (shM m b o) i = _
      unfold shM; rw [if_pos hf, has_add]
      congr 1; simp [hr.1, hr.2]
    · show hasF b i = _
      simp
  · have hf : tGrey m b o = true := h
    obtain ⟨h1, h2⟩ := grey_iff.1 hf
    have hr := has_in h1
    refine ⟨hr, h2, by rw [h1]; rfl, ?_, ?_⟩
    · show hasF m i = _
      simp
    · show hasF (scB m b o) i = _
      unfold scB; rw [if_pos hf, has_add]
      congr 1; simp [hr.1, hr.2]
  · have hf : tFree m b o = true := h
    obtain ⟨hr, h1, h2⟩ := free_iff.1 hf
    refine ⟨hr, h2, by rw [h1]; rfl, ?_, ?_⟩
    · show hasF (shM m b o) i = _
      unfold shM; rw [if_pos hf, has_add]
      congr 1; simp [hr.1, hr.2]
    · show hasF (frB m b o) i = _
      unfold frB; rw [if_pos hf, has_add]
      congr 1; simp [hr.1, hr.2]
/-- another object keeps its colour; this one gets darker -/
theorem tk_of {k : Int} (hk : k = 1 ∨ k = 2 ∨ k = 3) {m b : Nat} {o : Int} (h : tkOk k m b o = true) (i : Int) :
    (i ≠ o → tOf (tkM k m b o) (tkB k m b o) i = tOf m b i) ∧ tOf m b o < tOf (tkM k m b o) (tkB k m b o) o := by
  obtain ⟨hr, hb, hm, h1, h2⟩ := tk_has hk h i
  obtain ⟨-, -, -, h3, h4⟩ := tk_has hk h o
  constructor
  · intro hi
    unfold tOf
    rw [h1, h2]; simp [hi]
  · unfold tOf
    rw [h3, h4, hb, hm]
    rcases hk with rfl | rfl | rfl <;> simp
theorem tk_darker {k : Int} (hk : k = 1 ∨ k = 2 ∨ k = 3) (m b : Nat) (o i : Int) : tOf m b i ≤ tOf (tkM k m b o) (tkB k m b o) i := by
  cases h : tkOk k m b o
  · obtain ⟨e1, e2⟩ := tk_no h; rw [e1, e2]; exact Int.le_refl _
  · obtain ⟨h1, h2⟩ := tk_of hk h i
    by_cases hi : i = o
    · subst hi; omega
    · rw [h1 hi]; exact Int.le_refl _
theorem tk_differ {k : Int} (hk : k = 1 ∨ k = 2 ∨ k = 3) (m b : Nat) (o i : Int) : tOf (tkM k m b o) (tkB k m b o) i ≠ tOf m b i ↔ (tkOk k m b o = true ∧ i = o) := by
  cases h : tkOk k m b o
  · obtain ⟨e1, e2⟩ := tk_no h; rw [e1, e2]; simp
  · obtain ⟨h1, h2⟩ := tk_of hk h i
    by_cases hi : i = o
    · subst hi; simp; omega
    · simp [hi]; exact h1 hi
theorem tk_right {k : Int} (hk : k = 1 ∨ k = 2 ∨ k = 3) {m b : Nat} (hm : m < 18446744073709551616) (hb : b < 18446744073709551616) (hu : underF b m = true) (o : Int) : tRight (tkM k m b o) (tkB k m b o) 64 = true := by
  unfold tRight
  rw [Bool.and_eq_true]
  have lm := tkM_lt k b o hm
  have lb := tkB_lt k m o hb
  refine ⟨?_, (under_iff lm (first_lt _)).2 fun i hi _ => by rw [first_bit, decide_eq_true_eq]; omega⟩
  rw [under_has lb lm]
  rw [under_has hb hm] at hu
  intro i hi
  cases h : tkOk k m b o
  · obtain ⟨e1, e2⟩ := tk_no h
    rw [e1]; rw [e2] at hi; exact hu i hi
  · obtain ⟨-, -, h0, h1, h2⟩ := tk_has hk h i
    rw [h1]
    rw [h2] at hi
    by_cases e : i = o
    · subst e
      rcases hk with rfl | rfl | rfl <;> simp_all
    · simp [e] at hi ⊢; exact hu i hi
/-- what the three turns ask, by colour -/
theorem free_white {m b : Nat} (hm : m < 18446744073709551616) (hb : b < 18446744073709551616) (hu : underF b m = true) (o : Int) : tFree m b o = (decide (1 ≤ o) && (decide (o ≤ 64) && decide (tOf m b o = 0))) := by
  rw [under_has hb hm] at hu
  have hub := hu o
  unfold tFree tOf
  cases h1 : hasF m o
  · have h2 : hasF b o = false := by
      cases h : hasF b o
      · rfl
      · rw [hub h] at h1; cases h1
    rw [h2]
    rw [Bool.eq_iff_iff]; simp
  · rw [if_pos rfl]
    rw [Bool.eq_iff_iff]
    split <;> simp
theorem grey_one (m b : Nat) (o : Int) : tGrey m b o = decide (tOf m b o = 1) := by
  unfold tGrey tOf
  cases hasF m o <;> cases hasF b o <;> decide
theorem under_and (a b : Nat) (ha : a < 18446744073709551616) : underF (a &&& b) a = true :=
  (under_has (and_lt' b ha) ha).2 fun i hi => by rw [has_and, Bool.and_eq_true] at hi; exact hi.1

/-! what leads from one to the other -/
theorem tk_ne {k : Int} (hk : k = 1 ∨ k = 2 ∨ k = 3) {m b : Nat} {o : Int} (h : tkOk k m b o = true) : ¬ (m = tkM k m b o ∧ b = tkB k m b o) := by
  rintro ⟨e1, e2⟩
  have := (tk_of hk h o).2
  rw [← e1, ← e2] at this
  omega
theorem turned_eq (m b p q : Nat) (o : Int) : tTurned m b p q o = if p = tkM 1 m b o ∧ q = tkB 1 m b o then 1 else if p = tkM 2 m b o ∧ q = tkB 2 m b o then 2 else if p = tkM 3 m b o ∧ q = tkB 3 m b o then 3 else -1 := rfl
/-- two turns that are done, and lead to the same, are the same -/
theorem tk_inj {k l : Int} (hk : k = 1 ∨ k = 2 ∨ k = 3) (hl : l = 1 ∨ l = 2 ∨ l = 3) {m b : Nat} {o p : Int} (h : tkOk k m b o = true) (e1 : tkM k m b o = tkM l m b p) (e2 : tkB k m b o = tkB l m b p) : k = l ∧ o = p := by
  have h' : tkOk l m b p = true := by
    cases hh : tkOk l m b p
    · obtain ⟨f1, f2⟩ := tk_no hh
      exact absurd ⟨(e1.trans f1).symm, (e2.trans f2).symm⟩ (tk_ne hk h)
    · rfl
  have d1 := (tk_differ hk m b o o).2 ⟨h, rfl⟩
  rw [e1, e2] at d1
  obtain ⟨-, ho⟩ := (tk_differ hl m b p o).1 d1
  subst ho
  refine ⟨?_, rfl⟩
  obtain ⟨-, hb, hm, a1, a2⟩ := tk_has hk h o
  obtain ⟨-, -, hm', c1, c2⟩ := tk_has hl h' o
  rw [e1, c1] at a1
  rw [e2, c2] at a2
  rw [hb] at a2
  rw [hm] at a1 hm'
  rcases hk with rfl | rfl | rfl <;> rcases hl with rfl | rfl | rfl <;> first | rfl | (simp at a1 a2 hm')
theorem turned_hit {k : Int} (hk : k = 1 ∨ k = 2 ∨ k = 3) {m b : Nat} {x : Int} (h : tkOk k m b x = true) (o : Int) : tTurned m b (tkM k m b x) (tkB k m b x) o = if o = x then k else -1 := by
  rw [turned_eq]
  by_cases e : o = x
  · subst e
    rw [if_pos rfl]
    rcases hk with rfl | rfl | rfl
    · rw [if_pos ⟨rfl, rfl⟩]
    · rw [if_neg (fun hh => by have := (tk_inj (k := 2) (l := 1) (by decide) (by decide) h hh.1 hh.2).1; omega), if_pos ⟨rfl, rfl⟩]
    · rw [if_neg (fun hh => by have := (tk_inj (k := 3) (l := 1) (by decide) (by decide) h hh.1 hh.2).1; omega), if_neg (fun hh => by have := (tk_inj (k := 3) (l := 2) (by decide) (by decide) h hh.1 hh.2).1; omega), if_pos ⟨rfl, rfl⟩]
  · rw [if_neg e, if_neg (fun hh => e ((tk_inj hk (by decide) h hh.1 hh.2).2.symm)), if_neg (fun hh => e ((tk_inj hk (by decide) h hh.1 hh.2).2.symm)), if_neg (fun hh => e ((tk_inj hk (by decide) h hh.1 hh.2).2.symm))]
theorem tk_up {k : Int} (hk : k = 1 ∨ k = 2 ∨ k = 3) (m b : Nat) (o i : Int) : (hasF m i = true → hasF (tkM k m b o) i = true) ∧ (hasF b i = true → hasF (tkB k m b o) i = true) := by
  cases h : tkOk k m b o
  · obtain ⟨e1, e2⟩ := tk_no h; rw [e1, e2]; exact ⟨id, id⟩
  · obtain ⟨-, -, -, h1, h2⟩ := tk_has hk h i
    rw [h1, h2]
    exact ⟨fun h => by rw [h]; rfl, fun h => by rw [h]; rfl⟩
theorem turned_back {k : Int} (hk : k = 1 ∨ k = 2 ∨ k = 3) {m b : Nat} (hm : m < 18446744073709551616) (hb : b < 18446744073709551616) {x : Int} (h : tkOk k m b x = true) (o : Int) : tTurned (tkM k m b x) (tkB k m b x) m b o = -1 := by
  have no : ∀ l : Int, (l = 1 ∨ l = 2 ∨ l = 3) → ¬ (m = tkM l (tkM k m b x) (tkB k m b x) o ∧ b = tkB l (tkM k m b x) (tkB k m b x) o) := by
    rintro l hl ⟨e1, e2⟩
    refine tk_ne hk h ⟨?_, ?_⟩
    · refine has_ext hm (tkM_lt k b x hm) fun i _ _ => ?_
      have u1 := (tk_up hk m b x i).1
      have u2 := (tk_up hl (tkM k m b x) (tkB k m b x) o i).1
      rw [← e1] at u2
      rw [Bool.eq_iff_iff]; exact ⟨u1, u2⟩
    · refine has_ext hb (tkB_lt k m x hb) fun i _ _ => ?_
      have u1 := (tk_up hk m b x i).2
      have u2 := (tk_up hl (tkM k m b x) (tkB k m b x) o i).2
      rw [← e2] at u2
      rw [Bool.eq_iff_iff]; exact ⟨u1, u2⟩
  rw [turned_eq, if_neg (no 1 (by decide)), if_neg (no 2 (by decide)), if_neg (no 3 (by decide))]
theorem look_hit {m b p q : Nat} {k x : Int} (hk : k ≠ -1) (h : ∀ o, tTurned m b p q o = if o = x then k else -1) : ∀ (f : Nat) (o : Int), o ≤ x → x < o + f → tLook m b p q f o = (k, x)
  | 0, o, h1, h2 => by omega
  | f + 1, o, h1, h2 => by
    unfold tLook
    rw [h o]
    by_cases e : o = x
    · subst e; rw [if_pos rfl, if_pos hk]
    · rw [if_neg e, if_neg (by simp)]
      exact look_hit hk h f (o + 1) (by omega) (by omega)
theorem look_none {m b p q : Nat} (h : ∀ o, tTurned m b p q o = -1) : ∀ (f : Nat) (o : Int), tLook m b p q f o = (-1, 0)
  | 0, o => rfl
  | f + 1, o => by
    unfold tLook
    rw [h o, if_neg (by simp)]
    exact look_none h f (o + 1)
theorem between_hit {k : Int} (hk : k = 1 ∨ k = 2 ∨ k = 3) {m b : Nat} {x : Int} (h : tkOk k m b x = true) : tBetween m b (tkM k m b x) (tkB k m b x) = (k, x) := by
  unfold tBetween
  have hr := (tk_has hk h x).1
  rw [if_neg (tk_ne hk h)]
  exact look_hit (by omega) (turned_hit hk h) 64 1 (by omega) (by omega)
theorem between_back {k : Int} (hk : k = 1 ∨ k = 2 ∨ k = 3) {m b : Nat} (hm : m < 18446744073709551616) (hb : b < 18446744073709551616) {x : Int} (h : tkOk k m b x = true) : tBetween (tkM k m b x) (tkB k m b x) m b = (-1, 0) := by
  unfold tBetween
  rw [if_neg (fun e => tk_ne hk h ⟨e.1.symm, e.2.symm⟩)]
  exact look_none (turned_back hk hm hb h) 64 1
theorem between_self (m b : Nat) : tBetween m b m b = (0, 0) := by unfold tBetween; rw [if_pos ⟨rfl, rfl⟩]

/-! what is fresh -/
theorem fresh_two {m b : Nat} {x : Int} (h : tFree m b x = true) : tGrey (shM m b x) b x = true ∧ scB (shM m b x) b x = frB m b x ∧ tOf (shM m b x) b x = 1 ∧ tOf (shM m b x) (frB m b x) x = 2 := by
  obtain ⟨hr, h1, h2⟩ := free_iff.1 h
  have e1 : shM m b x = addF m x := by unfold shM; rw [if_pos h]
  have e2 : frB m b x = addF b x := by unfold frB; rw [if_pos h]
  have a1 : hasF (addF m x) x = true := by rw [has_add]; simp [hr.1, hr.2]
  have a2 : hasF (addF b x) x = true := by rw [has_add]; simp [hr.1, hr.2]
  rw [e1, e2]
  have g : tGrey (addF m x) b x = true := grey_iff.2 ⟨a1, h2⟩
  exact ⟨g, by unfold scB; rw [if_pos g], tOf_grey _ _ _ a1 h2, tOf_black _ _ _ a1 a2⟩
theorem free_no {m b : Nat} {x : Int} (h : tFree m b x = false) : shM m b x = m ∧ frB m b x = b := by unfold shM frB; rw [h]; exact ⟨rfl, rfl⟩

/-! greys, texts, right ones -/
theorem has_greys {m b : Nat} (hb : b < 18446744073709551616) (i : Int) : hasF (tGreys m b) i = (hasF m i && !hasF b i) := by
  unfold tGreys
  rw [has_and]
  by_cases h : 1 ≤ i ∧ i ≤ 64
  · obtain ⟨k, rfl⟩ : ∃ k : Nat, i = (k : Int) + 1 := ⟨(i - 1).toNat, by omega⟩
    rw [has_bit (18446744073709551615 - b) _ (by omega), has_bit b _ (by omega), testBit_not _ _ hb, decide_eq_true (by omega), Bool.true_and]
  · rw [has_no m i h]; rfl
theorem greys_grey {m b : Nat} (hb : b < 18446744073709551616) (i : Int) : hasF (tGreys m b) i = decide (tOf m b i = 1) := by
  rw [has_greys hb]; exact grey_one m b i
theorem greys_under {m b : Nat} (hm : m < 18446744073709551616) (hb : b < 18446744073709551616) : underF (tGreys m b) m = true :=
  (under_has (tGreys_lt b hm) hm).2 fun i hi => by rw [has_greys hb, Bool.and_eq_true] at hi; exact hi.1
theorem filter_part (p q r : Nat → Bool) : ∀ l : List Nat, (∀ i ∈ l, r i = (p i || q i) ∧ (p i && q i) = false) → (l.filter p).length + (l.filter q).length = (l.filter r).length
  | [], _ => rfl
  | a :: l, h => by
    have ih := filter_part p q r l fun i hi => h i (List.mem_cons_of_mem _ hi)
    obtain ⟨h1, h2⟩ := h a (List.mem_cons_self ..)
    rw [List.filter_cons, List.filter_cons, List.filter_cons, h1]
    cases hp : p a <;> cases hq : q a <;> simp_all <;> omega
theorem cnt_greys {m b : Nat} (hm : m < 18446744073709551616) (hb : b < 18446744073709551616) (hu : underF b m = true) : cntF (tGreys m b) + cntF b = cntF m := by
  unfold cntF objs
  rw [List.length_map, List.length_map, List.length_map]
  refine filter_part _ _ _ _ fun i hi => ?_
  have hi' := List.mem_range.1 hi
  rw [← has_bit _ _ hi', ← has_bit _ _ hi', ← has_bit _ _ hi', has_greys hb]
  have := (under_has hb hm).1 hu ((i : Int) + 1)
  cases h1 : hasF m ((i : Int) + 1) <;> cases h2 : hasF b ((i : Int) + 1) <;> simp_all
theorem first_objs (n : Int) : objs (firstF n) = (List.range (min (max n 0) 64).toNat).map fun (i : Nat) => (i : Int) + 1 := by
  unfold objs
  congr 1
  have e : ((List.range 64).filter fun i => (firstF n).testBit i) = (List.range 64).filter fun i => decide (i < (min (max n 0) 64).toNat) := by
    apply List.filter_congr
    intro i hi
    rw [first_bit, decide_eq_decide]
    have := List.mem_range.1 hi
    omega
  rw [e]
  have hk : (min (max n 0) 64).toNat ≤ 64 := by omega
  generalize (min (max n 0) 64).toNat = k at hk
  have : ∀ k : Fin 65, ((List.range 64).filter fun i => decide (i < k.val)) = List.range k.val := by decide +kernel
  exact this ⟨k, by omega⟩
theorem text_len (m b : Nat) (n : Int) : (tText m b n).length = (min (max n 0) 64).toNat := by unfold tText; rw [List.length_map, first_objs, List.length_map, List.length_range]
theorem text_at (m b : Nat) (n : Int) (k : Nat) (h : k < (tText m b n).length) : (tText m b n)[k] = tLetter (tOf m b ((k : Int) + 1)) := by
  have := text_len m b n
  unfold tText
  simp only [List.getElem_map, first_objs, List.getElem_range]
theorem right_all {m : Nat} (b : Nat) (hm : m < 18446744073709551616) : tRight m b 64 = underF b m := by
  unfold tRight
  rw [(under_iff hm (first_lt _)).2 fun i hi _ => by rw [first_bit, decide_eq_true_eq]; omega, Bool.and_true]
/-- the test of TintRight's round -/
def tFitI (m b : Nat) (k : Int) (i : Int) : Bool := (!hasF m i || decide (i ≤ k)) && (!hasF b i || hasF m i)
def tFits (m b : Nat) (k : Int) : Nat → Bool
  | 0 => true
  | n + 1 => tFits m b k n && tFitI m b k ((n : Int) + 1)
theorem fits_iff (m b : Nat) (k : Int) : ∀ n : Nat, tFits m b k n = true ↔ ∀ i : Int, 1 ≤ i → i ≤ n → tFitI m b k i = true
  | 0 => by constructor; intro _ i h1 h2; omega; intro _; rfl
  | n + 1 => by
    unfold tFits
    rw [Bool.and_eq_true, fits_iff m b k n]
    constructor
    · rintro ⟨h1, h2⟩ i h3 h4
      by_cases e : i = (n : Int) + 1
      · subst e; exact h2
      · exact h1 i h3 (by omega)
    · intro h
      exact ⟨fun i h1 h2 => h i h1 (by omega), h _ (by omega) (by omega)⟩
theorem right_fits {m b : Nat} (hm : m < 18446744073709551616) (hb : b < 18446744073709551616) (k : Int) : tRight m b k = tFits m b k 64 := by
  rw [Bool.eq_iff_iff, fits_iff]
  unfold tRight
  rw [Bool.and_eq_true, under_has hb hm, under_has hm (first_lt _)]
  constructor
  · rintro ⟨h1, h2⟩ i hi hi'
    have a := h1 i
    have c := h2 i
    rw [has_first, decide_eq_true_eq] at c
    unfold tFitI
    cases e1 : hasF m i <;> cases e2 : hasF b i <;> simp_all
  · intro h
    constructor
    · intro i hi
      have hr := has_in hi
      have := h i hr.1 (by omega)
      unfold tFitI at this
      rw [hi] at this; simp at this; exact this.2
    · intro i hi
      have hr := has_in hi
      have := h i hr.1 (by omega)
      unfold tFitI at this
      rw [hi] at this; simp at this
      rw [has_first, decide_eq_true_eq]; omega
theorem right_more {m b : Nat} (hm : m < 18446744073709551616) (k : Int) (h : tRight m b k = true) : tRight m b (k + 1) = true := by
  unfold tRight at *
  rw [Bool.and_eq_true] at *
  refine ⟨h.1, (under_iff hm (first_lt _)).2 fun i hi ht => ?_⟩
  have := (under_iff hm (first_lt _)).1 h.2 i hi ht
  rw [first_bit, decide_eq_true_eq] at *
  omega
end Go.Proofs.YtpffknlbffnafaaDoor
