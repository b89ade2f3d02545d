/- Layer ledger: what reads a ledger. -/
import Derived.Test.YtgbkphgclpgppaaLedgerB
namespace Go.Proofs.Ytgbkphgclpgppaa
open Go.RowKit

theorem wrap_s (n : Int) : IntKind.i64.wrap n = s64 n := by
  unfold s64
  simp [IntKind.wrap, IntKind.signed, IntKind.bits]
  omega
def inL (n a b : Int) : Bool := decide (a ≤ n ∧ n ≤ b)
theorem priced_is (L : Lg) (who p q : Int) : lPriced L who p q = (lThere L who && (inL p 0 1000000 && inL q 0 1000000)) := by
  unfold lPriced inL
  rw [Bool.eq_iff_iff]
  simp only [Bool.and_eq_true, decide_eq_true_eq]
  exact and_congr_right fun _ => by omega
theorem within_any (n a b : Int) (w : World) : Calls Try.prog 36 #[.int .i64 n, .int .i64 a, .int .i64 b] w fun e w' => e = .returned (.bool (inL n a b)) ∧ w' = w := by
  by_cases h : a ≤ n <;> by_cases k : n ≤ b
  all_goals
    have HF := hide (show inL n a b = _ by simp only [inL, h, k, and_self, and_true, and_false, decide_true, decide_false]; rfl)
    go_enter Try.func36, Try.ntmps36
    go_wp2
    go_ret
    exact ⟨ret_bool HF.out.symm, rfl⟩
theorem hasMutator_any (a b c : Int) (v : Value) (l : List Int) (who : Int) (w : World) (h : Ints w v l) :
    Calls Try.prog 28 #[lv a b c v, .int .i64 who] w fun e w' => e = .returned (.bool (lThere ⟨a, b, c, l⟩ who)) ∧ Below w.heap.size w w' := by
  obtain ⟨A, n, rfl, hn1, hn2, -⟩ := id h
  unfold maxLen at hn2
  clear h
  by_cases h : 1 ≤ who <;> by_cases k : who ≤ (l.length : Int)
  all_goals
    have HF := hide (show lThere ⟨a, b, c, l⟩ who = _ by simp only [lThere, h, k, and_self, and_true, and_false, decide_true, decide_false]; rfl)
    go_enter Try.func28, Try.ntmps28
    go_wp2
    go_ret
    exact ⟨ret_bool HF.out.symm, bal _ _⟩
set_option maxRecDepth 100000 in
set_option maxHeartbeats 1000000 in
theorem isAsk_any (a b c : Int) (v : Value) (l : List Int) (who p q : Int) (w : World) (h : Ints w v l) :
    Calls Try.prog 37 #[lv a b c v, .int .i64 who, .int .i64 p, .int .i64 q] w fun e w' => e = .returned (.bool (lPriced ⟨a, b, c, l⟩ who p q)) ∧ Below w.heap.size w w' := by
  cases hT : lThere ⟨a, b, c, l⟩ who
  · have H := hide hT
    have E := hide (show lPriced ⟨a, b, c, l⟩ who p q = false by rw [priced_is, hT]; rfl)
    clear hT
    have hB : Below w.heap.size w w := Below.refl _ _
    have HI := hide h
    clear h
    obtain ⟨w1, e1, hb1, hs1, X⟩ := lbox w (a) (b) (c) (v) 24
    have HE1 := hide e1
    have X := hide X
    clear e1
    replace HI := hide (HI.out.below hb1)
    replace hB := bcall hB hb1
    clear hb1
    go_enter Try.func37, Try.ntmps37
    go_wp2_with fail
    rw [HE1.out]
    (with_reducible refine (hasMutator_any a b c v l who _ HI.out).mono ?_)
    rintro e w2 ⟨rfl, hb2⟩
    replace X := hide (X.out.below hb2)
    replace HI := hide (HI.out.below hb2)
    replace hB := bcall hB hb2
    have hs2 := hb2.size
    clear hb2
    rw [H.out]
    go_wp2
    go_ret
    exact ⟨ret_bool E.out.symm, hB⟩
  · cases hP : inL p 0 1000000
    · have H := hide hT
      have H1 := hide hP
      have E := hide (show lPriced ⟨a, b, c, l⟩ who p q = false by rw [priced_is, hT, hP]; rfl)
      clear hT hP
      have hB : Below w.heap.size w w := Below.refl _ _
      have HI := hide h
      clear h
      obtain ⟨w1, e1, hb1, hs1, X⟩ := lbox w (a) (b) (c) (v) 24
      have HE1 := hide e1
      have X := hide X
      clear e1
      replace HI := hide (HI.out.below hb1)
      replace hB := bcall hB hb1
      clear hb1
      go_enter Try.func37, Try.ntmps37
      go_wp2_with fail
      rw [HE1.out]
      (with_reducible refine (hasMutator_any a b c v l who _ HI.out).mono ?_)
      rintro e w2 ⟨rfl, hb2⟩
      replace X := hide (X.out.below hb2)
      replace HI := hide (HI.out.below hb2)
      replace hB := bcall hB hb2
      have hs2 := hb2.size
      clear hb2
      rw [H.out]
      go_wp2_with fail
      (with_reducible refine (within_any p 0 1000000 _).mono ?_)
      rintro e w2 ⟨rfl, rfl⟩
      rw [H1.out]
      go_wp2
      go_ret
      exact ⟨ret_bool E.out.symm, hB⟩
    · cases hQ : inL q 0 1000000
      · have H := hide hT
        have H1 := hide hP
        have H2 := hide hQ
        have E := hide (show lPriced ⟨a, b, c, l⟩ who p q = false by rw [priced_is, hT, hP, hQ]; rfl)
        clear hT hP hQ
        have hB : Below w.heap.size w w := Below.refl _ _
        have HI := hide h
        clear h
        obtain ⟨w1, e1, hb1, hs1, X⟩ := lbox w (a) (b) (c) (v) 24
        have HE1 := hide e1
        have X := hide X
        clear e1
        replace HI := hide (HI.out.below hb1)
        replace hB := bcall hB hb1
        clear hb1
        go_enter Try.func37, Try.ntmps37
        go_wp2_with fail
        rw [HE1.out]
        (with_reducible refine (hasMutator_any a b c v l who _ HI.out).mono ?_)
        rintro e w2 ⟨rfl, hb2⟩
        replace X := hide (X.out.below hb2)
        replace HI := hide (HI.out.below hb2)
        replace hB := bcall hB hb2
        have hs2 := hb2.size
        clear hb2
        rw [H.out]
        go_wp2_with fail
        (with_reducible refine (within_any p 0 1000000 _).mono ?_)
        rintro e w2 ⟨rfl, rfl⟩
        rw [H1.out]
        go_wp2_with fail
        (with_reducible refine (within_any q 0 1000000 _).mono ?_)
        rintro e w2 ⟨rfl, rfl⟩
        rw [H2.out]
        go_wp2
        go_ret
        exact ⟨ret_bool E.out.symm, hB⟩
      · have H := hide hT
        have H1 := hide hP
        have H2 := hide hQ
        have E := hide (show lPriced ⟨a, b, c, l⟩ who p q = true by rw [priced_is, hT, hP, hQ]; rfl)
        clear hT hP hQ
        have hB : Below w.heap.size w w := Below.refl _ _
        have HI := hide h
        clear h
        obtain ⟨w1, e1, hb1, hs1, X⟩ := lbox w (a) (b) (c) (v) 24
        have HE1 := hide e1
        have X := hide X
        clear e1
        replace HI := hide (HI.out.below hb1)
        replace hB := bcall hB hb1
        clear hb1
        go_enter Try.func37, Try.ntmps37
        go_wp2_with fail
        rw [HE1.out]
        (with_reducible refine (hasMutator_any a b c v l who _ HI.out).mono ?_)
        rintro e w2 ⟨rfl, hb2⟩
        replace X := hide (X.out.below hb2)
        replace HI := hide (HI.out.below hb2)
        replace hB := bcall hB hb2
        have hs2 := hb2.size
        clear hb2
        rw [H.out]
        go_wp2_with fail
        (with_reducible refine (within_any p 0 1000000 _).mono ?_)
        rintro e w2 ⟨rfl, rfl⟩
        rw [H1.out]
        go_wp2_with fail
        (with_reducible refine (within_any q 0 1000000 _).mono ?_)
        rintro e w2 ⟨rfl, rfl⟩
        rw [H2.out]
        go_wp2
        go_ret
        exact ⟨ret_bool E.out.symm, hB⟩
theorem priced_there {L : Lg} {who p q : Int} (h : lPriced L who p q = true) : lThere L who = true := by
  unfold lPriced at h; rw [Bool.and_eq_true] at h; exact h.1
theorem priced_lim {L : Lg} {who p q : Int} (h : lPriced L who p q = true) : 0 ≤ q ∧ q ≤ 1000000 := by
  unfold lPriced at h; rw [Bool.and_eq_true, decide_eq_true_eq] at h; omega
set_option maxRecDepth 100000 in
set_option maxHeartbeats 1000000 in
theorem May_any (a b c : Int) (v : Value) (l : List Int) (who p q : Int) (w : World) (h : Ints w v l) :
    Calls Try.prog 20 #[lv a b c v, .int .i64 who, .int .i64 p, .int .i64 q] w fun e w' => e = .returned (.bool (lMay ⟨a, b, c, l⟩ who p q)) ∧ Below w.heap.size w w' := by
  cases hP : lPriced ⟨a, b, c, l⟩ who p q
  · have H := hide hP
    have E := hide (show lMay ⟨a, b, c, l⟩ who p q = false by unfold lMay; rw [hP]; rfl)
    clear hP
    have hB : Below w.heap.size w w := Below.refl _ _
    have HI := hide h
    clear h
    obtain ⟨w1, e1, hb1, hs1, X⟩ := lbox w (a) (b) (c) (v) 24
    have HE1 := hide e1
    have X := hide X
    clear e1
    replace HI := hide (HI.out.below hb1)
    replace hB := bcall hB hb1
    clear hb1
    go_enter Try.func20, Try.ntmps20
    go_wp2_with fail
    rw [HE1.out]
    (with_reducible refine (isAsk_any a b c _ l who p q _ HI.out).mono ?_)
    rintro e w2 ⟨rfl, hb2⟩
    replace X := hide (X.out.below hb2)
    replace HI := hide (HI.out.below hb2)
    replace hB := bcall hB hb2
    have hs2 := hb2.size
    clear hb2
    rw [H.out]
    go_wp2
    go_ret
    exact ⟨ret_bool E.out.symm, hB⟩
  · have H := hide hP
    obtain ⟨j, rfl, -, hj⟩ := there_at (priced_there hP)
    simp only at hj
    have g1 : lGet ⟨a, b, c, l⟩ ((j : Int) + 1) = l[j] := get_at (l := ⟨a, b, c, l⟩) hj
    have E := hide (show lMay ⟨a, b, c, l⟩ ((j : Int) + 1) p q = decide (-q ≤ s64 (l[j] - p)) by unfold lMay; rw [hP, g1]; rfl)
    obtain ⟨hq0, hq1⟩ := priced_lim hP
    clear g1
    clear hP
    have hB : Below w.heap.size w w := Below.refl _ _
    have HI := hide h
    obtain ⟨A, n, rfl, hn1, hn2, -⟩ := id h
    unfold maxLen at hn2
    clear h
    obtain ⟨w1, e1, hb1, hs1, X⟩ := lbox w (a) (b) (c) (.slice A l.length n) 24
    have HE1 := hide e1
    have X := hide X
    clear e1
    replace HI := hide (HI.out.below hb1)
    replace hB := bcall hB hb1
    clear hb1
    go_enter Try.func20, Try.ntmps20
    go_wp2_with fail
    rw [HE1.out]
    (with_reducible refine (isAsk_any a b c _ l ((j : Int) + 1) p q _ HI.out).mono ?_)
    rintro e w2 ⟨rfl, hb2⟩
    replace X := hide (X.out.below hb2)
    replace HI := hide (HI.out.below hb2)
    replace hB := bcall hB hb2
    have hs2 := hb2.size
    clear hb2
    rw [H.out]
    obtain ⟨X0, X1, X2, X3⟩ := X.out.all
    obtain ⟨g, off, rfl, -, d0⟩ := ints_at HI.out hj
    have e1 := wrap_s (l[j] - p)
    obtain ⟨y, hy⟩ : ∃ y, s64 (l[j] - p) = y := ⟨_, rfl⟩
    rw [hy] at e1
    have HY := hide hy
    generalize l[j] = x at *
    clear hy
    go_wp2
    all_goals
      go_ret
      refine ⟨ret_bool ?_, hB⟩
      rw [E.out, HY.out]
theorem priced_pri {L : Lg} {who p q : Int} (h : lPriced L who p q = true) : 0 ≤ p ∧ p ≤ 1000000 := by
  unfold lPriced at h; rw [Bool.and_eq_true, decide_eq_true_eq] at h; omega
set_option maxRecDepth 100000 in
set_option maxHeartbeats 1000000 in
theorem Lacks_any (a b c : Int) (v : Value) (l : List Int) (who p q : Int) (w : World) (h : Ints w v l) :
    Calls Try.prog 22 #[lv a b c v, .int .i64 who, .int .i64 p, .int .i64 q] w fun e w' => e = .returned (.int .i64 (lLacks ⟨a, b, c, l⟩ who p q)) ∧ Below w.heap.size w w' := by
  cases hP : lPriced ⟨a, b, c, l⟩ who p q
  · have H := hide hP
    have E := hide (show lLacks ⟨a, b, c, l⟩ who p q = -1 by unfold lLacks; rw [hP]; rfl)
    clear hP
    have hB : Below w.heap.size w w := Below.refl _ _
    have HI := hide h
    clear h
    obtain ⟨w1, e1, hb1, hs1, X⟩ := lbox w (a) (b) (c) (v) 24
    have HE1 := hide e1
    have X := hide X
    clear e1
    replace HI := hide (HI.out.below hb1)
    replace hB := bcall hB hb1
    clear hb1
    go_enter Try.func22, Try.ntmps22
    go_wp2_with fail
    rw [HE1.out]
    (with_reducible refine (isAsk_any a b c _ l who p q _ HI.out).mono ?_)
    rintro e w2 ⟨rfl, hb2⟩
    replace X := hide (X.out.below hb2)
    replace HI := hide (HI.out.below hb2)
    replace hB := bcall hB hb2
    have hs2 := hb2.size
    clear hb2
    rw [H.out]
    go_wp2
    go_ret
    exact ⟨ret_int E.out.symm, hB⟩
  · cases hM : lMay ⟨a, b, c, l⟩ who p q
    · have H := hide hP
      have H2 := hide hM
      obtain ⟨j, rfl, -, hj⟩ := there_at (priced_there hP)
      simp only at hj
      have g1 : lGet ⟨a, b, c, l⟩ ((j : Int) + 1) = l[j] := get_at (l := ⟨a, b, c, l⟩) hj
      have E := hide (show lLacks ⟨a, b, c, l⟩ ((j : Int) + 1) p q = s64 (p - q - l[j]) by unfold lLacks; rw [hP, hM, g1]; rfl)
      obtain ⟨hq0, hq1⟩ := priced_lim hP
      obtain ⟨hp0, hp1⟩ := priced_pri hP
      clear g1
      clear hP hM
      have hB : Below w.heap.size w w := Below.refl _ _
      have HI := hide h
      obtain ⟨A, n, rfl, hn1, hn2, -⟩ := id h
      unfold maxLen at hn2
      clear h
      obtain ⟨w1, e1, hb1, hs1, X⟩ := lbox w (a) (b) (c) (.slice A l.length n) 24
      have HE1 := hide e1
      have X := hide X
      clear e1
      replace HI := hide (HI.out.below hb1)
      replace hB := bcall hB hb1
      clear hb1
      go_enter Try.func22, Try.ntmps22
      go_wp2_with fail
      rw [HE1.out]
      (with_reducible refine (isAsk_any a b c _ l ((j : Int) + 1) p q _ HI.out).mono ?_)
      rintro e w2 ⟨rfl, hb2⟩
      replace X := hide (X.out.below hb2)
      replace HI := hide (HI.out.below hb2)
      replace hB := bcall hB hb2
      have hs2 := hb2.size
      clear hb2
      rw [H.out]
      obtain ⟨X0, X1, X2, X3⟩ := X.out.all
      go_wp2_with fail
      clear X0 X1 X2 X3
      (with_reducible refine (May_any a b c _ l ((j : Int) + 1) p q _ HI.out).mono ?_)
      rintro e w3 ⟨rfl, hb3⟩
      replace X := hide (X.out.below hb3)
      replace HI := hide (HI.out.below hb3)
      replace hB := bcall hB hb3
      have hs3 := hb3.size
      clear hb3
      rw [H2.out]
      obtain ⟨X0, X1, X2, X3⟩ := X.out.all
      obtain ⟨g, off, rfl, -, d0⟩ := ints_at HI.out hj
      have e1 := wrap_s (p - q - l[j])
      obtain ⟨y, hy⟩ : ∃ y, s64 (p - q - l[j]) = y := ⟨_, rfl⟩
      rw [hy] at e1
      have HY := hide hy
      generalize l[j] = x at *
      clear hy
      go_wp2
      go_ret
      exact ⟨ret_int (by rw [E.out, HY.out]), hB⟩
    · have H := hide hP
      have H2 := hide hM
      have E := hide (show lLacks ⟨a, b, c, l⟩ who p q = 0 by unfold lLacks; rw [hP, hM]; rfl)
      clear hP hM
      have hB : Below w.heap.size w w := Below.refl _ _
      have HI := hide h
      clear h
      obtain ⟨w1, e1, hb1, hs1, X⟩ := lbox w (a) (b) (c) (v) 24
      have HE1 := hide e1
      have X := hide X
      clear e1
      replace HI := hide (HI.out.below hb1)
      replace hB := bcall hB hb1
      clear hb1
      go_enter Try.func22, Try.ntmps22
      go_wp2_with fail
      rw [HE1.out]
      (with_reducible refine (isAsk_any a b c _ l who p q _ HI.out).mono ?_)
      rintro e w2 ⟨rfl, hb2⟩
      replace X := hide (X.out.below hb2)
      replace HI := hide (HI.out.below hb2)
      replace hB := bcall hB hb2
      have hs2 := hb2.size
      clear hb2
      rw [H.out]
      obtain ⟨X0, X1, X2, X3⟩ := X.out.all
      go_wp2_with fail
      clear X0 X1 X2 X3
      (with_reducible refine (May_any a b c _ l who p q _ HI.out).mono ?_)
      rintro e w3 ⟨rfl, hb3⟩
      replace X := hide (X.out.below hb3)
      replace HI := hide (HI.out.below hb3)
      replace hB := bcall hB hb3
      have hs3 := hb3.size
      clear hb3
      rw [H2.out]
      go_wp2
      go_ret
      exact ⟨ret_int E.out.symm, hB⟩
end Go.Proofs.Ytgbkphgclpgppaa
