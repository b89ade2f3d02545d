/- Layer ledger: the document's Right; its deeds with named values. -/
import Derived.Test.YtgbkphgclpgppaaRefLedgerB
namespace Go.Proofs.Ytgbkphgclpgppaa
open Go.RowKit

set_option maxRecDepth 100000 in
set_option maxHeartbeats 4000000 in
theorem rRight_any (a b c : Int) (v : Value) (l : List Int) (w : World) (h : Ints w v l) :
    Calls Try.prog 19 #[lv a b c v] w fun e w' => e = .returned (.bool (lRight ⟨a, b, c, l⟩)) ∧ Below w.heap.size w w' := by
  by_cases c0 : a < 0
  · have EF := hide (show lRight ⟨a, b, c, l⟩ = false by rw [right_is, show inL a 0 1099511627776 = false from decide_eq_false (by omega)]; simp)
    have hB : Below w.heap.size w w := Below.refl _ _
    have HI := hide h
    obtain ⟨A, m, rfl, hn1, hn2, -⟩ := id h
    unfold maxLen at hn2
    clear h
    obtain ⟨w1, e1, hb1, hs1, X⟩ := lbox w (a) (b) (c) (.slice A l.length m) 26
    have HE1 := hide e1
    have X := hide X
    clear e1
    replace HI := hide (HI.out.below hb1)
    replace hB := bcall hB hb1
    clear hb1
    go_enter Try.func19, Try.ntmps19
    go_upto_region 1 with (fail)
    rw [HE1.out]
    obtain ⟨X0, X1, X2, X3⟩ := X.out.all
    go_wp2
    go_ret
    exact ⟨ret_bool EF.out.symm, hB⟩
  · by_cases c1 : 1099511627776 < a
    · have EF := hide (show lRight ⟨a, b, c, l⟩ = false by rw [right_is, show inL a 0 1099511627776 = false from decide_eq_false (by omega)]; simp)
      have hB : Below w.heap.size w w := Below.refl _ _
      have HI := hide h
      obtain ⟨A, m, rfl, hn1, hn2, -⟩ := id h
      unfold maxLen at hn2
      clear h
      obtain ⟨w1, e1, hb1, hs1, X⟩ := lbox w (a) (b) (c) (.slice A l.length m) 26
      have HE1 := hide e1
      have X := hide X
      clear e1
      replace HI := hide (HI.out.below hb1)
      replace hB := bcall hB hb1
      clear hb1
      go_enter Try.func19, Try.ntmps19
      go_upto_region 1 with (fail)
      rw [HE1.out]
      obtain ⟨X0, X1, X2, X3⟩ := X.out.all
      go_wp2
      go_ret
      exact ⟨ret_bool EF.out.symm, hB⟩
    · by_cases c2 : b < 0
      · have EF := hide (show lRight ⟨a, b, c, l⟩ = false by rw [right_is, show inL b 0 1099511627776 = false from decide_eq_false (by omega)]; simp)
        have hB : Below w.heap.size w w := Below.refl _ _
        have HI := hide h
        obtain ⟨A, m, rfl, hn1, hn2, -⟩ := id h
        unfold maxLen at hn2
        clear h
        obtain ⟨w1, e1, hb1, hs1, X⟩ := lbox w (a) (b) (c) (.slice A l.length m) 26
        have HE1 := hide e1
        have X := hide X
        clear e1
        replace HI := hide (HI.out.below hb1)
        replace hB := bcall hB hb1
        clear hb1
        go_enter Try.func19, Try.ntmps19
        go_upto_region 1 with (fail)
        rw [HE1.out]
        obtain ⟨X0, X1, X2, X3⟩ := X.out.all
        go_wp2
        go_ret
        exact ⟨ret_bool EF.out.symm, hB⟩
      · by_cases c3 : 1099511627776 < b
        · have EF := hide (show lRight ⟨a, b, c, l⟩ = false by rw [right_is, show inL b 0 1099511627776 = false from decide_eq_false (by omega)]; simp)
          have hB : Below w.heap.size w w := Below.refl _ _
          have HI := hide h
          obtain ⟨A, m, rfl, hn1, hn2, -⟩ := id h
          unfold maxLen at hn2
          clear h
          obtain ⟨w1, e1, hb1, hs1, X⟩ := lbox w (a) (b) (c) (.slice A l.length m) 26
          have HE1 := hide e1
          have X := hide X
          clear e1
          replace HI := hide (HI.out.below hb1)
          replace hB := bcall hB hb1
          clear hb1
          go_enter Try.func19, Try.ntmps19
          go_upto_region 1 with (fail)
          rw [HE1.out]
          obtain ⟨X0, X1, X2, X3⟩ := X.out.all
          go_wp2
          go_ret
          exact ⟨ret_bool EF.out.symm, hB⟩
        · by_cases c4 : c < 0
          · have EF := hide (show lRight ⟨a, b, c, l⟩ = false by rw [right_is, show inL c 0 1099511627776 = false from decide_eq_false (by omega)]; simp)
            have hB : Below w.heap.size w w := Below.refl _ _
            have HI := hide h
            obtain ⟨A, m, rfl, hn1, hn2, -⟩ := id h
            unfold maxLen at hn2
            clear h
            obtain ⟨w1, e1, hb1, hs1, X⟩ := lbox w (a) (b) (c) (.slice A l.length m) 26
            have HE1 := hide e1
            have X := hide X
            clear e1
            replace HI := hide (HI.out.below hb1)
            replace hB := bcall hB hb1
            clear hb1
            go_enter Try.func19, Try.ntmps19
            go_upto_region 1 with (fail)
            rw [HE1.out]
            obtain ⟨X0, X1, X2, X3⟩ := X.out.all
            go_wp2
            go_ret
            exact ⟨ret_bool EF.out.symm, hB⟩
          · by_cases c5 : 1099511627776 < c
            · have EF := hide (show lRight ⟨a, b, c, l⟩ = false by rw [right_is, show inL c 0 1099511627776 = false from decide_eq_false (by omega)]; simp)
              have hB : Below w.heap.size w w := Below.refl _ _
              have HI := hide h
              obtain ⟨A, m, rfl, hn1, hn2, -⟩ := id h
              unfold maxLen at hn2
              clear h
              obtain ⟨w1, e1, hb1, hs1, X⟩ := lbox w (a) (b) (c) (.slice A l.length m) 26
              have HE1 := hide e1
              have X := hide X
              clear e1
              replace HI := hide (HI.out.below hb1)
              replace hB := bcall hB hb1
              clear hb1
              go_enter Try.func19, Try.ntmps19
              go_upto_region 1 with (fail)
              rw [HE1.out]
              obtain ⟨X0, X1, X2, X3⟩ := X.out.all
              go_wp2
              go_ret
              exact ⟨ret_bool EF.out.symm, hB⟩
            · by_cases c6 : 16 < l.length
              · have EF := hide (show lRight ⟨a, b, c, l⟩ = false by rw [right_is, show decide (l.length ≤ 16) = false from decide_eq_false (by omega)]; simp)
                have hB : Below w.heap.size w w := Below.refl _ _
                have HI := hide h
                obtain ⟨A, m, rfl, hn1, hn2, -⟩ := id h
                unfold maxLen at hn2
                clear h
                obtain ⟨w1, e1, hb1, hs1, X⟩ := lbox w (a) (b) (c) (.slice A l.length m) 26
                have HE1 := hide e1
                have X := hide X
                clear e1
                replace HI := hide (HI.out.below hb1)
                replace hB := bcall hB hb1
                clear hb1
                go_enter Try.func19, Try.ntmps19
                go_upto_region 1 with (fail)
                rw [HE1.out]
                obtain ⟨X0, X1, X2, X3⟩ := X.out.all
                have c6i : (16 : Int) < (l.length : Int) := by omega
                go_wp2
                go_ret
                exact ⟨ret_bool EF.out.symm, hB⟩
              · have EF := hide (show lRight ⟨a, b, c, l⟩ = (okB l && decide (lSumF (s64 (b + c)) l = a)) by rw [right_is, show inL a 0 1099511627776 = true from decide_eq_true (by omega), show inL b 0 1099511627776 = true from decide_eq_true (by omega), show inL c 0 1099511627776 = true from decide_eq_true (by omega), show decide (l.length ≤ 16) = true from decide_eq_true (by omega)]; rfl)
                have hB : Below w.heap.size w w := Below.refl _ _
                have HI := hide h
                obtain ⟨A, m, rfl, hn1, hn2, -⟩ := id h
                unfold maxLen at hn2
                clear h
                obtain ⟨w1, e1, hb1, hs1, X⟩ := lbox w (a) (b) (c) (.slice A l.length m) 26
                have HE1 := hide e1
                have X := hide X
                clear e1
                replace HI := hide (HI.out.below hb1)
                replace hB := bcall hB hb1
                clear hb1
                go_enter Try.func19, Try.ntmps19
                go_upto_region 1 with (fail)
                rw [HE1.out]
                obtain ⟨X0, X1, X2, X3⟩ := X.out.all
                have c6i : ¬ (16 : Int) < (l.length : Int) := by omega
                have e1 := wrap_s (b + c)
                obtain ⟨s, hs⟩ : ∃ s, s64 (b + c) = s := ⟨_, rfl⟩
                rw [hs] at e1 EF
                clear hs
                go_wp2
                go_loopw [4, 5] (fun tv iv wr => ∃ k : Nat, k ≤ l.length ∧ iv = .int .i64 k ∧ tv = .int .i64 (lSumF s (l.take k)) ∧ wr = w1 ∧ Hid (okB (l.take k) = true)) (fun _ iv _ => l.length - (Go.RowKit.intOf iv).toNat)
                case atStart => exact ⟨0, Nat.zero_le _, rfl, rfl, rfl, hide rfl⟩
                case round =>
                  obtain ⟨k, hk, rfl, rfl, rfl, HK⟩ := hrel
                  by_cases hlt : k < l.length
                  · obtain ⟨g, off, rfl, -, d0⟩ := ints_at HI.out hlt
                    have HS := hide (sum_take hlt s)
                    have e2 := wrap_s (lSumF s (l.take k) + l[k])
                    rw [← HS.out] at e2
                    obtain ⟨t, ht⟩ : ∃ t, lSumF s (l.take k) = t := ⟨_, rfl⟩
                    rw [ht] at e2 ⊢
                    clear HS
                    have HO := hide (fun h => ok_snoc hlt HK.out h)
                    have HN := hide (fun h => ok_not hlt h)
                    generalize l[k] = x at *
                    by_cases x0 : x < -1099511627776
                    · have HF := hide (HN.out (decide_eq_false (by omega)))
                      go_wp2
                      go_ret
                      exact ⟨ret_bool (by rw [EF.out, HF.out]; rfl), hB⟩
                    · by_cases x1 : 1099511627776 < x
                      · have HF := hide (HN.out (decide_eq_false (by omega)))
                        go_wp2
                        go_ret
                        exact ⟨ret_bool (by rw [EF.out, HF.out]; rfl), hB⟩
                      · have HF := hide (HO.out (decide_eq_true (by omega)))
                        go_wp2
                        go_roundw
                        case rel => exact ⟨k + 1, by omega, by go_num, rfl, trivial, HF⟩
                        case measure => simp [Go.RowKit.intOf]; omega
                  · have hkk : k = l.length := by omega
                    subst hkk
                    rw [List.take_length] at *
                    have HF := hide (show lRight ⟨a, b, c, l⟩ = decide (lSumF s l = a) by rw [EF.out, HK.out]; rfl)
                    obtain ⟨t, ht⟩ : ∃ t, lSumF s l = t := ⟨_, rfl⟩
                    rw [ht] at HF ⊢
                    clear ht
                    go_wp2
                    go_ret
                    exact ⟨ret_bool (by rw [HF.out, Bool.eq_iff_iff, beq_iff_eq, decide_eq_true_eq]), hB⟩
theorem ints_use {w : World} {v : Value} {l : List Int} (h : Ints w v l) {N : Nat} (hN : l.length = N) : ∃ A c, v = .slice A N c ∧ (N ≤ c ∧ c ≤ 9223372036854775807) ∧ Ints w (.slice A N c) l := by
  subst hN
  obtain ⟨A, c, rfl, h1, h2, h3⟩ := id h
  exact ⟨A, c, rfl, ⟨h1, by unfold maxLen at h2; omega⟩, h⟩
theorem rlPut_at (l : List Int) {j : Nat} (hj : j < l.length) (d : Int) : lPut l ((j : Int) + 1) d = l.set j (s64 (l[j] + d)) := by
  unfold lPut
  rw [show ((j : Int) + 1 - 1).toNat = j by omega, List.getD_eq_getElem?_getD, List.getElem?_eq_getElem hj]; rfl
theorem rEarn_any (a b c : Int) (v : Value) (l : List Int) (who : Int) (w : World) (h : Ints w v l) (hbig : l.length * 8 ≤ 140737488351232) (R : Lg) (hR : lEarn ⟨a, b, c, l⟩ who = R) :
    Calls Try.prog 17 #[lv a b c v, .int .i64 who] w fun e w' => ∃ v', e = .returned (lv R.scanned R.spent R.pool v') ∧ Ints w' v' R.bal ∧ Below w.heap.size w w' := by
  subst hR
  cases ht : lThere ⟨a, b, c, l⟩ who
  · have e : lEarn ⟨a, b, c, l⟩ who = ⟨s64 (a + 1), b, s64 (c + 1), l⟩ := by unfold lEarn; rw [ht]; rfl
    rw [e]
    exact rEarn_no a b c v l who ht w h
  · obtain ⟨j, rfl, -, hj⟩ := there_at ht
    simp only at hj
    have e : lEarn ⟨a, b, c, l⟩ ((j : Int) + 1) = ⟨s64 (a + 1), b, c, l.set j (s64 (l[j] + 1))⟩ := by unfold lEarn; rw [ht, if_pos rfl, rlPut_at l hj]
    rw [e]
    exact rEarn_yes a b c v l j hj w h hbig
theorem rTake_any (a b c : Int) (v : Value) (l : List Int) (who want : Int) (w : World) (h : Ints w v l) (hbig : l.length * 8 ≤ 140737488351232) (R : Lg) (n : Int) (hR : lTake ⟨a, b, c, l⟩ who want = R) (hn : lTook ⟨a, b, c, l⟩ who want = n) :
    Calls Try.prog 12 #[lv a b c v, .int .i64 who, .int .i64 want] w fun e w' => ∃ v', e = .returned (.tuple #[lv R.scanned R.spent R.pool v', .int .i64 n]) ∧ Ints w' v' R.bal ∧ Below w.heap.size w w' := by
  subst hR hn
  have off : lTakes ⟨a, b, c, l⟩ who want = false → lTake ⟨a, b, c, l⟩ who want = ⟨a, b, c, l⟩ ∧ lTook ⟨a, b, c, l⟩ who want = 0 := fun h => by unfold lTake lTook; rw [h]; exact ⟨rfl, rfl⟩
  cases ht : lThere ⟨a, b, c, l⟩ who
  · obtain ⟨e1, e2⟩ := off (by unfold lTakes; rw [ht]; rfl)
    rw [e1, e2]
    exact rTake_off0 a b c v l who want ht w h
  · by_cases hw : 0 < want
    · by_cases hc : 0 < c
      · have hl : lTakes ⟨a, b, c, l⟩ who want = true := by unfold lTakes; rw [ht, decide_eq_true hw, show decide (0 < (Lg.mk a b c l).pool) = true from decide_eq_true hc]; rfl
        obtain ⟨j, rfl, -, hj⟩ := there_at ht
        simp only at hj
        have e1 : lTake ⟨a, b, c, l⟩ ((j : Int) + 1) want = ⟨a, b, s64 (c - min want c), l.set j (s64 (l[j] + min want c))⟩ := by unfold lTake; rw [hl, if_pos rfl, rlPut_at l hj]
        have e2 : lTook ⟨a, b, c, l⟩ ((j : Int) + 1) want = min want c := by unfold lTook; rw [hl]; rfl
        rw [e1, e2]
        by_cases hle : want ≤ c
        · rw [Int.min_eq_left hle]
          exact rTake_want a b c v l j hj want hw hc hle w h hbig
        · rw [Int.min_eq_right (by omega)]
          exact rTake_pool a b c v l j hj want hw hc (by omega) w h hbig
      · obtain ⟨e1, e2⟩ := off (by unfold lTakes; rw [ht, decide_eq_true hw, show decide (0 < (Lg.mk a b c l).pool) = false from decide_eq_false hc]; rfl)
        rw [e1, e2]
        exact rTake_off2 a b c v l who want ht hw (by omega) w h
    · obtain ⟨e1, e2⟩ := off (by unfold lTakes; rw [ht, decide_eq_false hw]; rfl)
      rw [e1, e2]
      exact rTake_off1 a b c v l who want ht (by omega) w h
theorem rSpend_any (a b c : Int) (v : Value) (l : List Int) (who p q : Int) (w : World) (h : Ints w v l) (hbig : l.length * 8 ≤ 140737488351232) (R : Lg) (d : Bool) (hR : lSpend ⟨a, b, c, l⟩ who p q = R) (hd : lMay ⟨a, b, c, l⟩ who p q = d) :
    Calls Try.prog 14 #[lv a b c v, .int .i64 who, .int .i64 p, .int .i64 q] w fun e w' => ∃ v', e = .returned (.tuple #[lv R.scanned R.spent R.pool v', .bool d]) ∧ Ints w' v' R.bal ∧ Below w.heap.size w w' := by
  subst hR
  cases d
  · have e : lSpend ⟨a, b, c, l⟩ who p q = ⟨a, b, c, l⟩ := by unfold lSpend; rw [hd]; rfl
    rw [e]
    exact rSpend_no a b c v l who p q hd w h
  · have ht : lThere ⟨a, b, c, l⟩ who = true := by unfold lMay at hd; rw [Bool.and_eq_true] at hd; exact priced_there hd.1
    obtain ⟨j, rfl, -, hj⟩ := there_at ht
    simp only at hj
    have e : lSpend ⟨a, b, c, l⟩ ((j : Int) + 1) p q = ⟨a, s64 (b + p), c, l.set j (s64 (l[j] + -p))⟩ := by unfold lSpend; rw [hd, if_pos rfl, rlPut_at l hj]
    rw [e]
    exact rSpend_yes a b c v l j hj p q hd w h hbig
theorem rEarn_c (a b c : Int) (v : Value) (l : List Int) (who : Int) (w : World) (h : Ints w v l) (hbig : l.length * 8 ≤ 140737488351232) (a1 b1 c1 : Int) (l1 : List Int) (N : Nat) (hR : lEarn ⟨a, b, c, l⟩ who = ⟨a1, b1, c1, l1⟩) (hN : l1.length = N) :
    Calls Try.prog 17 #[lv a b c v, .int .i64 who] w fun e w' => ∃ A m, e = .returned (lv a1 b1 c1 (.slice A N m)) ∧ (N ≤ m ∧ m ≤ 9223372036854775807) ∧ Ints w' (.slice A N m) l1 ∧ Below w.heap.size w w' := by
  refine (rEarn_any a b c v l who w h hbig ⟨a1, b1, c1, l1⟩ hR).mono ?_
  rintro e w' ⟨v', rfl, ho, hb⟩
  obtain ⟨A, m, rfl, h1, h2⟩ := ints_use ho hN
  exact ⟨A, m, rfl, h1, h2, hb⟩
theorem rTake_c (a b c : Int) (v : Value) (l : List Int) (who want : Int) (w : World) (h : Ints w v l) (hbig : l.length * 8 ≤ 140737488351232) (a1 b1 c1 : Int) (l1 : List Int) (N : Nat) (t : Int) (hR : lTake ⟨a, b, c, l⟩ who want = ⟨a1, b1, c1, l1⟩) (ht : lTook ⟨a, b, c, l⟩ who want = t) (hN : l1.length = N) :
    Calls Try.prog 12 #[lv a b c v, .int .i64 who, .int .i64 want] w fun e w' => ∃ A m, e = .returned (.tuple #[lv a1 b1 c1 (.slice A N m), .int .i64 t]) ∧ (N ≤ m ∧ m ≤ 9223372036854775807) ∧ Ints w' (.slice A N m) l1 ∧ Below w.heap.size w w' := by
  refine (rTake_any a b c v l who want w h hbig ⟨a1, b1, c1, l1⟩ t hR ht).mono ?_
  rintro e w' ⟨v', rfl, ho, hb⟩
  obtain ⟨A, m, rfl, h1, h2⟩ := ints_use ho hN
  exact ⟨A, m, rfl, h1, h2, hb⟩
theorem rSpend_c (a b c : Int) (v : Value) (l : List Int) (who p q : Int) (w : World) (h : Ints w v l) (hbig : l.length * 8 ≤ 140737488351232) (a1 b1 c1 : Int) (l1 : List Int) (N : Nat) (d : Bool) (hR : lSpend ⟨a, b, c, l⟩ who p q = ⟨a1, b1, c1, l1⟩) (hd : lMay ⟨a, b, c, l⟩ who p q = d) (hN : l1.length = N) :
    Calls Try.prog 14 #[lv a b c v, .int .i64 who, .int .i64 p, .int .i64 q] w fun e w' => ∃ A m, e = .returned (.tuple #[lv a1 b1 c1 (.slice A N m), .bool d]) ∧ (N ≤ m ∧ m ≤ 9223372036854775807) ∧ Ints w' (.slice A N m) l1 ∧ Below w.heap.size w w' := by
  refine (rSpend_any a b c v l who p q w h hbig ⟨a1, b1, c1, l1⟩ d hR hd).mono ?_
  rintro e w' ⟨v', rfl, ho, hb⟩
  obtain ⟨A, m, rfl, h1, h2⟩ := ints_use ho hN
  exact ⟨A, m, rfl, h1, h2, hb⟩
theorem rNew_c (m : Int) (r : List Int) (N : Nat) (hr : (lNew m).bal = r) (hN : r.length = N) (w : World) :
    Calls Try.prog 26 #[.int .i64 m] w fun e w' => ∃ A c, e = .returned (lv 0 0 0 (.slice A N c)) ∧ (N ≤ c ∧ c ≤ 9223372036854775807) ∧ Ints w' (.slice A N c) r ∧ Below w.heap.size w w' := by
  subst hr
  refine (rNew_any m w).mono ?_
  rintro e w' ⟨v', rfl, ho, hb⟩
  obtain ⟨A, c, rfl, h1, h2⟩ := ints_use (OwnB.ints ho) hN
  exact ⟨A, c, rfl, h1, h2, hb⟩
theorem rSame_yes (a b c : Int) (v v' : Value) (l : List Int) (w : World) (h1 : Ints w v l) (h2 : Ints w v' l) : Calls Try.prog 15 #[lv a b c v, lv a b c v'] w fun e w' => e = .returned (.bool true) ∧ Below w.heap.size w w' := by
  refine (rSame_any a b c v l a b c v' l w h1 h2).mono ?_
  rintro e w' ⟨rfl, h⟩
  exact ⟨by rw [lSame_self], h⟩
end Go.Proofs.Ytgbkphgclpgppaa
