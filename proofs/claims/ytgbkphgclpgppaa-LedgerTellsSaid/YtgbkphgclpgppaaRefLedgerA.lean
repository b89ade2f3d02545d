/- Layer ledger: the document's readers. -/
import Derived.Test.YtgbkphgclpgppaaLedgerMore
import Derived.Deep.Cut
namespace Go.Proofs.Ytgbkphgclpgppaa
open Go.RowKit

set_option maxRecDepth 100000 in
set_option maxHeartbeats 1000000 in
theorem refLedger_any (a b c : Int) (v : Value) (l : List Int) (w : World) (h : Ints w v l) : Calls Try.prog 10 #[lv a b c v] w fun e w' => e = .returned (lv a b c v) ∧ Below w.heap.size w w' := by
  have hB : Below w.heap.size w w := Below.refl _ _
  obtain ⟨A, n, rfl, hn1, hn2, -⟩ := id h
  unfold maxLen at hn2
  clear h
  obtain ⟨w1, e1, hb1, hs1, X, Y⟩ := lbox2 w a b c (.slice A l.length n) 24 0 0 0 (.slice none 0 0) 26
  have HE1 := hide e1
  have X := hide X
  have Y := hide Y
  clear e1
  replace hB := bcall hB hb1
  clear hb1
  obtain ⟨X0, X1, X2, X3⟩ := X.out.all
  obtain ⟨X4, X5, X6, X7⟩ := X.out.free
  obtain ⟨Y0, Y1, Y2, Y3⟩ := Y.out.all
  obtain ⟨Y4, Y5, Y6, Y7⟩ := Y.out.free
  go_enter Try.func10, Try.ntmps10
  go_upto_region 1 with (fail)
  rw [HE1.out]
  go_wp2
  refine bodyPost_ret (v := lv a b c (.slice A l.length n)) (by simp [results, Try.results10, go_sem, Y0, Y1, Y2, Y3]) rfl ⟨rfl, ?_⟩
  repeat (first | (with_reducible exact hB) | (with_reducible refine bset ?_ _ _ (by omega) _) | (with_reducible refine Below.drew ?_))
theorem there_any (a b c : Int) (v : Value) (l : List Int) (who : Int) (w : World) (h : Ints w v l) :
    Calls Try.prog 32 #[lv a b c v, .int .i64 who] w fun e w' => e = .returned (.bool (lThere ⟨a, b, c, l⟩ who)) ∧ Below w.heap.size w w' := by
  obtain ⟨A, n, rfl, hn1, hn2, -⟩ := id h
  unfold maxLen at hn2
  clear h
  by_cases h : 1 ≤ who <;> by_cases k : who ≤ (l.length : Int)
  all_goals
    have HF := hide (show lThere ⟨a, b, c, l⟩ who = _ by simp only [lThere, h, k, and_self, and_true, and_false, decide_true, decide_false]; rfl)
    go_enter Try.func32, Try.ntmps32
    go_wp2
    go_ret
    exact ⟨ret_bool HF.out.symm, bal _ _⟩
set_option maxRecDepth 100000 in
set_option maxHeartbeats 1000000 in
theorem priced_any (a b c : Int) (v : Value) (l : List Int) (who p q : Int) (w : World) (h : Ints w v l) :
    Calls Try.prog 38 #[lv a b c v, .int .i64 who, .int .i64 p, .int .i64 q] w fun e w' => e = .returned (.bool (lPriced ⟨a, b, c, l⟩ who p q)) ∧ Below w.heap.size w w' := by
  cases hT : lThere ⟨a, b, c, l⟩ who
  · have H := hide hT
    have E := hide (show lPriced ⟨a, b, c, l⟩ who p q = false by unfold lPriced; rw [hT]; rfl)
    have hB : Below w.heap.size w w := Below.refl _ _
    have HI := hide h
    clear h hT
    obtain ⟨w1, e1, hb1, hs1, X⟩ := lbox w (a) (b) (c) (v) 26
    have HE1 := hide e1
    have X := hide X
    clear e1
    replace HI := hide (HI.out.below hb1)
    replace hB := bcall hB hb1
    clear hb1
    go_enter Try.func38, Try.ntmps38
    go_wp2_with fail
    rw [HE1.out]
    (with_reducible refine (there_any a b c v l who _ HI.out).mono ?_)
    rintro e w2 ⟨rfl, hb2⟩
    replace X := hide (X.out.below hb2)
    replace HI := hide (HI.out.below hb2)
    replace hB := bcall hB hb2
    have hs2 := hb2.size
    clear hb2
    rw [H.out]
    go_wp2
    go_ret
    exact ⟨ret_bool E.out.symm, hB⟩
  · by_cases c0 : 0 ≤ p
    · by_cases c1 : p ≤ 1000000
      · by_cases c2 : 0 ≤ q
        · by_cases c3 : q ≤ 1000000
          · have H := hide hT
            have E := hide (show lPriced ⟨a, b, c, l⟩ who p q = true by unfold lPriced; rw [hT, decide_eq_true (by omega)]; rfl)
            have hB : Below w.heap.size w w := Below.refl _ _
            have HI := hide h
            clear h hT
            obtain ⟨w1, e1, hb1, hs1, X⟩ := lbox w (a) (b) (c) (v) 26
            have HE1 := hide e1
            have X := hide X
            clear e1
            replace HI := hide (HI.out.below hb1)
            replace hB := bcall hB hb1
            clear hb1
            go_enter Try.func38, Try.ntmps38
            go_wp2_with fail
            rw [HE1.out]
            (with_reducible refine (there_any a b c v l who _ HI.out).mono ?_)
            rintro e w2 ⟨rfl, hb2⟩
            replace X := hide (X.out.below hb2)
            replace HI := hide (HI.out.below hb2)
            replace hB := bcall hB hb2
            have hs2 := hb2.size
            clear hb2
            rw [H.out]
            go_wp2
            go_ret
            exact ⟨ret_bool (by first | exact E.out.symm | (rw [E.out]; exact decide_eq_false (by omega)) | (rw [E.out]; exact decide_eq_true (by omega))), hB⟩
          · have H := hide hT
            have E := hide (show lPriced ⟨a, b, c, l⟩ who p q = false by unfold lPriced; rw [hT, decide_eq_false (by omega)]; rfl)
            have hB : Below w.heap.size w w := Below.refl _ _
            have HI := hide h
            clear h hT
            obtain ⟨w1, e1, hb1, hs1, X⟩ := lbox w (a) (b) (c) (v) 26
            have HE1 := hide e1
            have X := hide X
            clear e1
            replace HI := hide (HI.out.below hb1)
            replace hB := bcall hB hb1
            clear hb1
            go_enter Try.func38, Try.ntmps38
            go_wp2_with fail
            rw [HE1.out]
            (with_reducible refine (there_any a b c v l who _ HI.out).mono ?_)
            rintro e w2 ⟨rfl, hb2⟩
            replace X := hide (X.out.below hb2)
            replace HI := hide (HI.out.below hb2)
            replace hB := bcall hB hb2
            have hs2 := hb2.size
            clear hb2
            rw [H.out]
            go_wp2
            go_ret
            exact ⟨ret_bool (by first | exact E.out.symm | (rw [E.out]; exact decide_eq_false (by omega)) | (rw [E.out]; exact decide_eq_true (by omega))), hB⟩
        · have H := hide hT
          have E := hide (show lPriced ⟨a, b, c, l⟩ who p q = false by unfold lPriced; rw [hT, decide_eq_false (by omega)]; rfl)
          have hB : Below w.heap.size w w := Below.refl _ _
          have HI := hide h
          clear h hT
          obtain ⟨w1, e1, hb1, hs1, X⟩ := lbox w (a) (b) (c) (v) 26
          have HE1 := hide e1
          have X := hide X
          clear e1
          replace HI := hide (HI.out.below hb1)
          replace hB := bcall hB hb1
          clear hb1
          go_enter Try.func38, Try.ntmps38
          go_wp2_with fail
          rw [HE1.out]
          (with_reducible refine (there_any a b c v l who _ HI.out).mono ?_)
          rintro e w2 ⟨rfl, hb2⟩
          replace X := hide (X.out.below hb2)
          replace HI := hide (HI.out.below hb2)
          replace hB := bcall hB hb2
          have hs2 := hb2.size
          clear hb2
          rw [H.out]
          go_wp2
          go_ret
          exact ⟨ret_bool E.out.symm, hB⟩
      · have H := hide hT
        have E := hide (show lPriced ⟨a, b, c, l⟩ who p q = false by unfold lPriced; rw [hT, decide_eq_false (by omega)]; rfl)
        have hB : Below w.heap.size w w := Below.refl _ _
        have HI := hide h
        clear h hT
        obtain ⟨w1, e1, hb1, hs1, X⟩ := lbox w (a) (b) (c) (v) 26
        have HE1 := hide e1
        have X := hide X
        clear e1
        replace HI := hide (HI.out.below hb1)
        replace hB := bcall hB hb1
        clear hb1
        go_enter Try.func38, Try.ntmps38
        go_wp2_with fail
        rw [HE1.out]
        (with_reducible refine (there_any a b c v l who _ HI.out).mono ?_)
        rintro e w2 ⟨rfl, hb2⟩
        replace X := hide (X.out.below hb2)
        replace HI := hide (HI.out.below hb2)
        replace hB := bcall hB hb2
        have hs2 := hb2.size
        clear hb2
        rw [H.out]
        go_wp2
        go_ret
        exact ⟨ret_bool E.out.symm, hB⟩
    · have H := hide hT
      have E := hide (show lPriced ⟨a, b, c, l⟩ who p q = false by unfold lPriced; rw [hT, decide_eq_false (by omega)]; rfl)
      have hB : Below w.heap.size w w := Below.refl _ _
      have HI := hide h
      clear h hT
      obtain ⟨w1, e1, hb1, hs1, X⟩ := lbox w (a) (b) (c) (v) 26
      have HE1 := hide e1
      have X := hide X
      clear e1
      replace HI := hide (HI.out.below hb1)
      replace hB := bcall hB hb1
      clear hb1
      go_enter Try.func38, Try.ntmps38
      go_wp2_with fail
      rw [HE1.out]
      (with_reducible refine (there_any a b c v l who _ HI.out).mono ?_)
      rintro e w2 ⟨rfl, hb2⟩
      replace X := hide (X.out.below hb2)
      replace HI := hide (HI.out.below hb2)
      replace hB := bcall hB hb2
      have hs2 := hb2.size
      clear hb2
      rw [H.out]
      go_wp2
      go_ret
      exact ⟨ret_bool E.out.symm, hB⟩
set_option maxRecDepth 100000 in
set_option maxHeartbeats 1000000 in
theorem rMay_any (a b c : Int) (v : Value) (l : List Int) (who p q : Int) (w : World) (h : Ints w v l) :
    Calls Try.prog 21 #[lv a b c v, .int .i64 who, .int .i64 p, .int .i64 q] w fun e w' => e = .returned (.bool (lMay ⟨a, b, c, l⟩ who p q)) ∧ Below w.heap.size w w' := by
  cases hP : lPriced ⟨a, b, c, l⟩ who p q
  · have H := hide hP
    have E := hide (show lMay ⟨a, b, c, l⟩ who p q = false by unfold lMay; rw [hP]; rfl)
    clear hP
    have hB : Below w.heap.size w w := Below.refl _ _
    have HI := hide h
    clear h
    obtain ⟨w1, e1, hb1, hs1, X⟩ := lbox w (a) (b) (c) (v) 26
    have HE1 := hide e1
    have X := hide X
    clear e1
    replace HI := hide (HI.out.below hb1)
    replace hB := bcall hB hb1
    clear hb1
    go_enter Try.func21, Try.ntmps21
    go_wp2_with fail
    rw [HE1.out]
    (with_reducible refine (priced_any a b c _ l who p q _ HI.out).mono ?_)
    rintro e w2 ⟨rfl, hb2⟩
    replace X := hide (X.out.below hb2)
    replace HI := hide (HI.out.below hb2)
    replace hB := bcall hB hb2
    have hs2 := hb2.size
    clear hb2
    rw [H.out]
    go_wp2
    go_ret
    exact ⟨ret_bool E.out.symm, hB⟩
  · have H := hide hP
    obtain ⟨j, rfl, -, hj⟩ := there_at (priced_there hP)
    simp only at hj
    have g1 : lGet ⟨a, b, c, l⟩ ((j : Int) + 1) = l[j] := get_at (l := ⟨a, b, c, l⟩) hj
    have E := hide (show lMay ⟨a, b, c, l⟩ ((j : Int) + 1) p q = decide (-q ≤ s64 (l[j] - p)) by unfold lMay; rw [hP, g1]; rfl)
    obtain ⟨hq0, hq1⟩ := priced_lim hP
    clear g1
    clear hP
    have hB : Below w.heap.size w w := Below.refl _ _
    have HI := hide h
    obtain ⟨A, n, rfl, hn1, hn2, -⟩ := id h
    unfold maxLen at hn2
    clear h
    obtain ⟨w1, e1, hb1, hs1, X⟩ := lbox w (a) (b) (c) (.slice A l.length n) 26
    have HE1 := hide e1
    have X := hide X
    clear e1
    replace HI := hide (HI.out.below hb1)
    replace hB := bcall hB hb1
    clear hb1
    go_enter Try.func21, Try.ntmps21
    go_wp2_with fail
    rw [HE1.out]
    (with_reducible refine (priced_any a b c _ l ((j : Int) + 1) p q _ HI.out).mono ?_)
    rintro e w2 ⟨rfl, hb2⟩
    replace X := hide (X.out.below hb2)
    replace HI := hide (HI.out.below hb2)
    replace hB := bcall hB hb2
    have hs2 := hb2.size
    clear hb2
    rw [H.out]
    obtain ⟨X0, X1, X2, X3⟩ := X.out.all
    obtain ⟨g, off, rfl, -, d0⟩ := ints_at HI.out hj
    have e1 := wrap_s (l[j] - p)
    obtain ⟨y, hy⟩ : ∃ y, s64 (l[j] - p) = y := ⟨_, rfl⟩
    rw [hy] at e1
    have HY := hide hy
    generalize l[j] = x at *
    clear hy
    go_wp2
    all_goals
      go_ret
      refine ⟨ret_bool ?_, hB⟩
      rw [E.out, HY.out]
set_option maxRecDepth 100000 in
set_option maxHeartbeats 1000000 in
theorem rLacks_any (a b c : Int) (v : Value) (l : List Int) (who p q : Int) (w : World) (h : Ints w v l) :
    Calls Try.prog 23 #[lv a b c v, .int .i64 who, .int .i64 p, .int .i64 q] w fun e w' => e = .returned (.int .i64 (lLacks ⟨a, b, c, l⟩ who p q)) ∧ Below w.heap.size w w' := by
  cases hP : lPriced ⟨a, b, c, l⟩ who p q
  · have H := hide hP
    have E := hide (show lLacks ⟨a, b, c, l⟩ who p q = -1 by unfold lLacks; rw [hP]; rfl)
    clear hP
    have hB : Below w.heap.size w w := Below.refl _ _
    have HI := hide h
    clear h
    obtain ⟨w1, e1, hb1, hs1, X⟩ := lbox w (a) (b) (c) (v) 26
    have HE1 := hide e1
    have X := hide X
    clear e1
    replace HI := hide (HI.out.below hb1)
    replace hB := bcall hB hb1
    clear hb1
    go_enter Try.func23, Try.ntmps23
    go_wp2_with fail
    rw [HE1.out]
    (with_reducible refine (priced_any a b c _ l who p q _ HI.out).mono ?_)
    rintro e w2 ⟨rfl, hb2⟩
    replace X := hide (X.out.below hb2)
    replace HI := hide (HI.out.below hb2)
    replace hB := bcall hB hb2
    have hs2 := hb2.size
    clear hb2
    rw [H.out]
    go_wp2
    go_ret
    exact ⟨ret_int E.out.symm, hB⟩
  · cases hM : lMay ⟨a, b, c, l⟩ who p q
    · have H := hide hP
      have H2 := hide hM
      obtain ⟨j, rfl, -, hj⟩ := there_at (priced_there hP)
      simp only at hj
      have g1 : lGet ⟨a, b, c, l⟩ ((j : Int) + 1) = l[j] := get_at (l := ⟨a, b, c, l⟩) hj
      have E := hide (show lLacks ⟨a, b, c, l⟩ ((j : Int) + 1) p q = s64 (p - q - l[j]) by unfold lLacks; rw [hP, hM, g1]; rfl)
      obtain ⟨hq0, hq1⟩ := priced_lim hP
      obtain ⟨hp0, hp1⟩ := priced_pri hP
      clear g1
      clear hP hM
      have hB : Below w.heap.size w w := Below.refl _ _
      have HI := hide h
      obtain ⟨A, n, rfl, hn1, hn2, -⟩ := id h
      unfold maxLen at hn2
      clear h
      obtain ⟨w1, e1, hb1, hs1, X⟩ := lbox w (a) (b) (c) (.slice A l.length n) 26
      have HE1 := hide e1
      have X := hide X
      clear e1
      replace HI := hide (HI.out.below hb1)
      replace hB := bcall hB hb1
      clear hb1
      go_enter Try.func23, Try.ntmps23
      go_wp2_with fail
      rw [HE1.out]
      (with_reducible refine (priced_any a b c _ l ((j : Int) + 1) p q _ HI.out).mono ?_)
      rintro e w2 ⟨rfl, hb2⟩
      replace X := hide (X.out.below hb2)
      replace HI := hide (HI.out.below hb2)
      replace hB := bcall hB hb2
      have hs2 := hb2.size
      clear hb2
      rw [H.out]
      obtain ⟨X0, X1, X2, X3⟩ := X.out.all
      go_wp2_with fail
      clear X0 X1 X2 X3
      (with_reducible refine (rMay_any a b c _ l ((j : Int) + 1) p q _ HI.out).mono ?_)
      rintro e w3 ⟨rfl, hb3⟩
      replace X := hide (X.out.below hb3)
      replace HI := hide (HI.out.below hb3)
      replace hB := bcall hB hb3
      have hs3 := hb3.size
      clear hb3
      rw [H2.out]
      obtain ⟨X0, X1, X2, X3⟩ := X.out.all
      obtain ⟨g, off, rfl, -, d0⟩ := ints_at HI.out hj
      have e1 := wrap_s (p - q - l[j])
      obtain ⟨y, hy⟩ : ∃ y, s64 (p - q - l[j]) = y := ⟨_, rfl⟩
      rw [hy] at e1
      have HY := hide hy
      generalize l[j] = x at *
      clear hy
      go_wp2
      go_ret
      exact ⟨ret_int (by rw [E.out, HY.out]), hB⟩
    · have H := hide hP
      have H2 := hide hM
      have E := hide (show lLacks ⟨a, b, c, l⟩ who p q = 0 by unfold lLacks; rw [hP, hM]; rfl)
      clear hP hM
      have hB : Below w.heap.size w w := Below.refl _ _
      have HI := hide h
      clear h
      obtain ⟨w1, e1, hb1, hs1, X⟩ := lbox w (a) (b) (c) (v) 26
      have HE1 := hide e1
      have X := hide X
      clear e1
      replace HI := hide (HI.out.below hb1)
      replace hB := bcall hB hb1
      clear hb1
      go_enter Try.func23, Try.ntmps23
      go_wp2_with fail
      rw [HE1.out]
      (with_reducible refine (priced_any a b c _ l who p q _ HI.out).mono ?_)
      rintro e w2 ⟨rfl, hb2⟩
      replace X := hide (X.out.below hb2)
      replace HI := hide (HI.out.below hb2)
      replace hB := bcall hB hb2
      have hs2 := hb2.size
      clear hb2
      rw [H.out]
      obtain ⟨X0, X1, X2, X3⟩ := X.out.all
      go_wp2_with fail
      clear X0 X1 X2 X3
      (with_reducible refine (rMay_any a b c _ l who p q _ HI.out).mono ?_)
      rintro e w3 ⟨rfl, hb3⟩
      replace X := hide (X.out.below hb3)
      replace HI := hide (HI.out.below hb3)
      replace hB := bcall hB hb3
      have hs3 := hb3.size
      clear hb3
      rw [H2.out]
      go_wp2
      go_ret
      exact ⟨ret_int E.out.symm, hB⟩
set_option maxRecDepth 100000 in
set_option maxHeartbeats 1000000 in
theorem rNew_neg (m : Int) (hm : m < 0) (w : World) :
    Calls Try.prog 26 #[.int .i64 m] w fun e w' => ∃ v, e = .returned (lv 0 0 0 v) ∧ OwnB w.heap.size w' v (lNew m).bal ∧ Below w.heap.size w w' := by
  have HN := hide (show (min (max m 0) 16).toNat = 0 by omega)
  have mk := run_zero 0 0 rfl (by omega)
  obtain ⟨w1, e1, hb1, hs1, X⟩ := lbox w 0 0 0 (.slice none 0 0) 26
  have HE1 := hide e1
  have hB := hb1
  have v0 : w1.heap.size = w.heap.size + 1 := hs1
  obtain ⟨P00, P01, P02, P03⟩ := ((X).below (bal _ (zi 0))).all
  obtain ⟨Q00, Q01, Q02, Q03⟩ := ((X).below (bal _ (zi 0))).free
  obtain ⟨P10, P11, P12, P13⟩ := ((X.put0 0).below (bal _ (zi 0))).all
  obtain ⟨Q10, Q11, Q12, Q13⟩ := ((X.put0 0).below (bal _ (zi 0))).free
  obtain ⟨P20, P21, P22, P23⟩ := (((X.put0 0).put1 0).below (bal _ (zi 0))).all
  obtain ⟨Q20, Q21, Q22, Q23⟩ := (((X.put0 0).put1 0).below (bal _ (zi 0))).free
  obtain ⟨P30, P31, P32, P33⟩ := ((((X.put0 0).put1 0).put2 0).below (bal _ (zi 0))).all
  obtain ⟨Q30, Q31, Q32, Q33⟩ := ((((X.put0 0).put1 0).put2 0).below (bal _ (zi 0))).free
  obtain ⟨P40, P41, P42, P43⟩ := (((((X.put0 0).put1 0).put2 0).put3 (.slice (some ⟨w.heap.size + 1, 0, none⟩) 0 0)).below (bal _ (zi 0))).all
  obtain ⟨Q40, Q41, Q42, Q43⟩ := (((((X.put0 0).put1 0).put2 0).put3 (.slice (some ⟨w.heap.size + 1, 0, none⟩) 0 0)).below (bal _ (zi 0))).free
  have HZ := hide (fun w2 => zi_at w2 0 (B := w.heap.size + 1) (by omega))
  clear e1 hb1 X
  go_enter Try.func26, Try.ntmps26
  go_upto_region 1 with (fail)
  rw [HE1.out]
  go_wp2
  refine bodyPost_ret (v := lv 0 0 0 (.slice (some ⟨w.heap.size + 1, 0, none⟩) 0 0)) (by simp [results, Try.results26, go_sem, P40, P41, P42, P43]) rfl ⟨_, rfl, ?_, ?_⟩
  · show OwnB _ _ _ (List.replicate _ 0)
    rw [HN.out]
    refine own_base (base := w.heap.size + 1) ?_ (by omega)
    exact HZ.out _ (by simp only [set_size]; exact v0)
  · refine Below.alloc ?_ (by simp only [set_size]; omega) _
    repeat (first | (with_reducible exact hB) | (with_reducible refine bset ?_ _ _ (by omega) _) | (with_reducible refine Below.drew ?_))
set_option maxRecDepth 100000 in
set_option maxHeartbeats 1000000 in
theorem rNew_mid (m : Int) (hm : 0 ≤ m ∧ m ≤ 16) (w : World) :
    Calls Try.prog 26 #[.int .i64 m] w fun e w' => ∃ v, e = .returned (lv 0 0 0 v) ∧ OwnB w.heap.size w' v (lNew m).bal ∧ Below w.heap.size w w' := by
  obtain ⟨n, rfl⟩ : ∃ n : Nat, m = n := ⟨m.toNat, by omega⟩
  have hn : n ≤ 16 := by omega
  have HN := hide (show (min (max (n : Int) 0) 16).toNat = n by omega)
  have mk := run_zero n n rfl (by omega)
  obtain ⟨w1, e1, hb1, hs1, X⟩ := lbox w 0 0 0 (.slice none 0 0) 26
  have HE1 := hide e1
  have hB := hb1
  have v0 : w1.heap.size = w.heap.size + 1 := hs1
  obtain ⟨P00, P01, P02, P03⟩ := ((X).below (bal _ (zi n))).all
  obtain ⟨Q00, Q01, Q02, Q03⟩ := ((X).below (bal _ (zi n))).free
  obtain ⟨P10, P11, P12, P13⟩ := ((X.put0 0).below (bal _ (zi n))).all
  obtain ⟨Q10, Q11, Q12, Q13⟩ := ((X.put0 0).below (bal _ (zi n))).free
  obtain ⟨P20, P21, P22, P23⟩ := (((X.put0 0).put1 0).below (bal _ (zi n))).all
  obtain ⟨Q20, Q21, Q22, Q23⟩ := (((X.put0 0).put1 0).below (bal _ (zi n))).free
  obtain ⟨P30, P31, P32, P33⟩ := ((((X.put0 0).put1 0).put2 0).below (bal _ (zi n))).all
  obtain ⟨Q30, Q31, Q32, Q33⟩ := ((((X.put0 0).put1 0).put2 0).below (bal _ (zi n))).free
  obtain ⟨P40, P41, P42, P43⟩ := (((((X.put0 0).put1 0).put2 0).put3 (.slice (some ⟨w.heap.size + 1, 0, none⟩) n n)).below (bal _ (zi n))).all
  obtain ⟨Q40, Q41, Q42, Q43⟩ := (((((X.put0 0).put1 0).put2 0).put3 (.slice (some ⟨w.heap.size + 1, 0, none⟩) n n)).below (bal _ (zi n))).free
  have HZ := hide (fun w2 => zi_at w2 n (B := w.heap.size + 1) (by omega))
  clear e1 hb1 X
  go_enter Try.func26, Try.ntmps26
  go_upto_region 1 with (fail)
  rw [HE1.out]
  go_wp2
  refine bodyPost_ret (v := lv 0 0 0 (.slice (some ⟨w.heap.size + 1, 0, none⟩) n n)) (by simp [results, Try.results26, go_sem, P40, P41, P42, P43]) rfl ⟨_, rfl, ?_, ?_⟩
  · show OwnB _ _ _ (List.replicate _ 0)
    rw [HN.out]
    refine own_base (base := w.heap.size + 1) ?_ (by omega)
    exact HZ.out _ (by simp only [set_size]; exact v0)
  · refine Below.alloc ?_ (by simp only [set_size]; omega) _
    repeat (first | (with_reducible exact hB) | (with_reducible refine bset ?_ _ _ (by omega) _) | (with_reducible refine Below.drew ?_))
set_option maxRecDepth 100000 in
set_option maxHeartbeats 1000000 in
theorem rNew_big (m : Int) (hm : 16 < m) (w : World) :
    Calls Try.prog 26 #[.int .i64 m] w fun e w' => ∃ v, e = .returned (lv 0 0 0 v) ∧ OwnB w.heap.size w' v (lNew m).bal ∧ Below w.heap.size w w' := by
  have HN := hide (show (min (max m 0) 16).toNat = 16 by omega)
  have mk := run_zero 16 16 rfl (by omega)
  obtain ⟨w1, e1, hb1, hs1, X⟩ := lbox w 0 0 0 (.slice none 0 0) 26
  have HE1 := hide e1
  have hB := hb1
  have v0 : w1.heap.size = w.heap.size + 1 := hs1
  obtain ⟨P00, P01, P02, P03⟩ := ((X).below (bal _ (zi 16))).all
  obtain ⟨Q00, Q01, Q02, Q03⟩ := ((X).below (bal _ (zi 16))).free
  obtain ⟨P10, P11, P12, P13⟩ := ((X.put0 0).below (bal _ (zi 16))).all
  obtain ⟨Q10, Q11, Q12, Q13⟩ := ((X.put0 0).below (bal _ (zi 16))).free
  obtain ⟨P20, P21, P22, P23⟩ := (((X.put0 0).put1 0).below (bal _ (zi 16))).all
  obtain ⟨Q20, Q21, Q22, Q23⟩ := (((X.put0 0).put1 0).below (bal _ (zi 16))).free
  obtain ⟨P30, P31, P32, P33⟩ := ((((X.put0 0).put1 0).put2 0).below (bal _ (zi 16))).all
  obtain ⟨Q30, Q31, Q32, Q33⟩ := ((((X.put0 0).put1 0).put2 0).below (bal _ (zi 16))).free
  obtain ⟨P40, P41, P42, P43⟩ := (((((X.put0 0).put1 0).put2 0).put3 (.slice (some ⟨w.heap.size + 1, 0, none⟩) 16 16)).below (bal _ (zi 16))).all
  obtain ⟨Q40, Q41, Q42, Q43⟩ := (((((X.put0 0).put1 0).put2 0).put3 (.slice (some ⟨w.heap.size + 1, 0, none⟩) 16 16)).below (bal _ (zi 16))).free
  have HZ := hide (fun w2 => zi_at w2 16 (B := w.heap.size + 1) (by omega))
  clear e1 hb1 X
  go_enter Try.func26, Try.ntmps26
  go_upto_region 1 with (fail)
  rw [HE1.out]
  go_wp2
  refine bodyPost_ret (v := lv 0 0 0 (.slice (some ⟨w.heap.size + 1, 0, none⟩) 16 16)) (by simp [results, Try.results26, go_sem, P40, P41, P42, P43]) rfl ⟨_, rfl, ?_, ?_⟩
  · show OwnB _ _ _ (List.replicate _ 0)
    rw [HN.out]
    refine own_base (base := w.heap.size + 1) ?_ (by omega)
    exact HZ.out _ (by simp only [set_size]; exact v0)
  · refine Below.alloc ?_ (by simp only [set_size]; omega) _
    repeat (first | (with_reducible exact hB) | (with_reducible refine bset ?_ _ _ (by omega) _) | (with_reducible refine Below.drew ?_))
theorem rNew_any (m : Int) (w : World) : Calls Try.prog 26 #[.int .i64 m] w fun e w' => ∃ v, e = .returned (lv 0 0 0 v) ∧ OwnB w.heap.size w' v (lNew m).bal ∧ Below w.heap.size w w' := by
  by_cases h : m < 0
  · exact rNew_neg m h w
  · by_cases k : 16 < m
    · exact rNew_big m k w
    · exact rNew_mid m ⟨by omega, by omega⟩ w
set_option maxRecDepth 100000 in
set_option maxHeartbeats 2000000 in
theorem rSame_any (a b c : Int) (v : Value) (l : List Int) (a' b' c' : Int) (v' : Value) (l' : List Int) (w : World) (h1 : Ints w v l) (h2 : Ints w v' l') :
    Calls Try.prog 15 #[lv a b c v, lv a' b' c' v'] w fun e w' => e = .returned (.bool (lSame ⟨a, b, c, l⟩ ⟨a', b', c', l'⟩)) ∧ Below w.heap.size w w' := by
  by_cases h0 : a = a'
  · by_cases hh1 : b = b'
    · by_cases hh2 : c = c'
      · by_cases hln : l.length = l'.length
        · have EF := hide (show lSame ⟨a, b, c, l⟩ ⟨a', b', c', l'⟩ = decide (l = l') by unfold lSame; simp [h0, hh1, hh2])
          have e_0 : (a != a') = false := by simp [h0]
          have e_1 : (b != b') = false := by simp [hh1]
          have e_2 : (c != c') = false := by simp [hh2]
          have e_3 : ((l.length : Int) != (l'.length : Int)) = false := by rw [bne_eq_false_iff_eq]; omega
          have HI := hide h1
          have HJ := hide h2
          have hB : Below w.heap.size w w := Below.refl _ _
          obtain ⟨w1, e1, hb1, hs1, X, Y⟩ := lbox2 w a b c v 26 a' b' c' v' 26
          have HE1 := hide e1
          replace HI := hide (HI.out.below hb1)
          replace HJ := hide (HJ.out.below hb1)
          replace hB := bcall hB hb1
          obtain ⟨A, n, rfl, hn1, hn2, -⟩ := id h1
          obtain ⟨D, m, rfl, hm1, hm2, -⟩ := id h2
          unfold maxLen at hn2 hm2
          have HN := hide hln
          clear h1 h2 e1 h0 hh1 hh2 hln
          obtain ⟨X0, X1, X2, X3⟩ := X.all
          obtain ⟨Y0, Y1, Y2, Y3⟩ := Y.all
          clear X Y
          go_enter Try.func15, Try.ntmps15
          go_upto_region 1 with (fail)
          rw [HE1.out]
          go_wp2
          go_loopw [5] (fun iv wr => ∃ i : Nat, i ≤ l.length ∧ iv = .int .i64 i ∧ Below w1.heap.size w1 wr ∧ Hid (l.take i = l'.take i)) (fun iv _ => l.length - (Go.RowKit.intOf iv).toNat)
          case atStart => exact ⟨0, Nat.zero_le _, rfl, Below.refl _ _, hide (by simp)⟩
          case round =>
            obtain ⟨i, hi, rfl, hbw, HE⟩ := hrel
            obtain ⟨Z3, Z4⟩ := And.intro (keepc hbw X3) (keepc hbw Y3)
            have Z0 := keepc hbw X0
            have hBw := bcall hB hbw
            by_cases hlt : i < l.length
            · have hlb : i < l'.length := by have := HN.out; omega
              obtain ⟨b1, o1, rfl, -, d0⟩ := ints_at (HI.out.below hbw) hlt
              obtain ⟨b2, o2, rfl, -, d1⟩ := ints_at (HJ.out.below hbw) hlb
              have jw : IntKind.i64.wrap (i : Int) = (i : Int) := by rw [wrap_s]; exact s64_small (by omega) (by omega)
              have j1 : (i : Int) < (l.length : Int) := by omega
              have j2 : (i : Int) < (l'.length : Int) := by omega
              by_cases he : l[i] = l'[i]
              · have e1 : (l[i] != l'[i]) = false := by rw [bne_eq_false_iff_eq]; exact he
                have HE2 := hide (show l.take (i + 1) = l'.take (i + 1) by rw [List.take_succ_eq_append_getElem hlt, List.take_succ_eq_append_getElem hlb, HE.out, he])
                clear he
                generalize l[i] = x at *
                generalize l'[i] = y at *
                go_wp2
                go_quiet (fail)
                go_wp2
                go_roundw
                case rel => exact ⟨i + 1, by omega, by go_num, bdrewN hbw _, HE2⟩
                case measure => simp [Go.RowKit.intOf]; omega
              · have e1 : (l[i] != l'[i]) = true := by rw [bne_iff_ne]; exact he
                have HF := hide (show decide (l = l') = false by simp only [decide_eq_false_iff_not]; intro h; apply he; simp [h])
                clear he
                generalize l[i] = x at *
                generalize l'[i] = y at *
                go_wp2
                go_quiet (fail)
                go_wp2
                go_ret
                exact ⟨ret_bool (by rw [EF.out, HF.out]), bdrewN hBw _⟩
            · have HF := hide (show l = l' by have h := HE.out; have := HN.out; rwa [List.take_of_length_le (by omega), List.take_of_length_le (by omega)] at h)
              go_wp2
              go_ret
              exact ⟨ret_bool (by rw [EF.out, decide_eq_true HF.out]), hBw⟩
        · have EF := hide (show lSame ⟨a, b, c, l⟩ ⟨a', b', c', l'⟩ = false by unfold lSame; simp only [decide_eq_false_iff_not]; rintro ⟨-, -, -, e⟩; exact hln (by rw [e]))
          have e_0 : (a != a') = false := by simp [h0]
          have e_1 : (b != b') = false := by simp [hh1]
          have e_2 : (c != c') = false := by simp [hh2]
          have e_3 : ((l.length : Int) != (l'.length : Int)) = true := by rw [bne_iff_ne]; omega
          have HI := hide h1
          have HJ := hide h2
          have hB : Below w.heap.size w w := Below.refl _ _
          obtain ⟨w1, e1, hb1, hs1, X, Y⟩ := lbox2 w a b c v 26 a' b' c' v' 26
          have HE1 := hide e1
          replace HI := hide (HI.out.below hb1)
          replace HJ := hide (HJ.out.below hb1)
          replace hB := bcall hB hb1
          obtain ⟨A, n, rfl, hn1, hn2, -⟩ := id h1
          obtain ⟨D, m, rfl, hm1, hm2, -⟩ := id h2
          unfold maxLen at hn2 hm2
          clear h1 h2 e1 h0 hh1 hh2 hln
          obtain ⟨X0, X1, X2, X3⟩ := X.all
          obtain ⟨Y0, Y1, Y2, Y3⟩ := Y.all
          clear X Y
          go_enter Try.func15, Try.ntmps15
          go_upto_region 1 with (fail)
          rw [HE1.out]
          go_wp2
          go_ret
          exact ⟨ret_bool EF.out.symm, hB⟩
      · have EF := hide (show lSame ⟨a, b, c, l⟩ ⟨a', b', c', l'⟩ = false by unfold lSame; simp [h0, hh1, hh2])
        have e_0 : (a != a') = false := by simp [h0]
        have e_1 : (b != b') = false := by simp [hh1]
        have e_2 : (c != c') = true := by simp [hh2]
        have HI := hide h1
        have HJ := hide h2
        have hB : Below w.heap.size w w := Below.refl _ _
        obtain ⟨w1, e1, hb1, hs1, X, Y⟩ := lbox2 w a b c v 26 a' b' c' v' 26
        have HE1 := hide e1
        replace HI := hide (HI.out.below hb1)
        replace HJ := hide (HJ.out.below hb1)
        replace hB := bcall hB hb1
        obtain ⟨A, n, rfl, hn1, hn2, -⟩ := id h1
        obtain ⟨D, m, rfl, hm1, hm2, -⟩ := id h2
        unfold maxLen at hn2 hm2
        clear h1 h2 e1 h0 hh1 hh2
        obtain ⟨X0, X1, X2, X3⟩ := X.all
        obtain ⟨Y0, Y1, Y2, Y3⟩ := Y.all
        clear X Y
        go_enter Try.func15, Try.ntmps15
        go_upto_region 1 with (fail)
        rw [HE1.out]
        go_wp2
        go_ret
        exact ⟨ret_bool EF.out.symm, hB⟩
    · have EF := hide (show lSame ⟨a, b, c, l⟩ ⟨a', b', c', l'⟩ = false by unfold lSame; simp [h0, hh1])
      have e_0 : (a != a') = false := by simp [h0]
      have e_1 : (b != b') = true := by simp [hh1]
      have HI := hide h1
      have HJ := hide h2
      have hB : Below w.heap.size w w := Below.refl _ _
      obtain ⟨w1, e1, hb1, hs1, X, Y⟩ := lbox2 w a b c v 26 a' b' c' v' 26
      have HE1 := hide e1
      replace HI := hide (HI.out.below hb1)
      replace HJ := hide (HJ.out.below hb1)
      replace hB := bcall hB hb1
      obtain ⟨A, n, rfl, hn1, hn2, -⟩ := id h1
      obtain ⟨D, m, rfl, hm1, hm2, -⟩ := id h2
      unfold maxLen at hn2 hm2
      clear h1 h2 e1 h0 hh1
      obtain ⟨X0, X1, X2, X3⟩ := X.all
      obtain ⟨Y0, Y1, Y2, Y3⟩ := Y.all
      clear X Y
      go_enter Try.func15, Try.ntmps15
      go_upto_region 1 with (fail)
      rw [HE1.out]
      go_wp2
      go_ret
      exact ⟨ret_bool EF.out.symm, hB⟩
  · have EF := hide (show lSame ⟨a, b, c, l⟩ ⟨a', b', c', l'⟩ = false by unfold lSame; simp [h0])
    have e_0 : (a != a') = true := by simp [h0]
    have HI := hide h1
    have HJ := hide h2
    have hB : Below w.heap.size w w := Below.refl _ _
    obtain ⟨w1, e1, hb1, hs1, X, Y⟩ := lbox2 w a b c v 26 a' b' c' v' 26
    have HE1 := hide e1
    replace HI := hide (HI.out.below hb1)
    replace HJ := hide (HJ.out.below hb1)
    replace hB := bcall hB hb1
    obtain ⟨A, n, rfl, hn1, hn2, -⟩ := id h1
    obtain ⟨D, m, rfl, hm1, hm2, -⟩ := id h2
    unfold maxLen at hn2 hm2
    clear h1 h2 e1 h0
    obtain ⟨X0, X1, X2, X3⟩ := X.all
    obtain ⟨Y0, Y1, Y2, Y3⟩ := Y.all
    clear X Y
    go_enter Try.func15, Try.ntmps15
    go_upto_region 1 with (fail)
    rw [HE1.out]
    go_wp2
    go_ret
    exact ⟨ret_bool EF.out.symm, hB⟩
end Go.Proofs.Ytgbkphgclpgppaa
