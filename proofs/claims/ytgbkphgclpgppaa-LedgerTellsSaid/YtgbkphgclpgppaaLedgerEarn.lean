/- Layer ledger: Earn. -/
import Derived.Test.YtgbkphgclpgppaaLedgerTurn
import Derived.Deep.Cut
import Derived.Shelf.Abstract
import Derived.Deep.RegionHeld3
namespace Go.Proofs.Ytgbkphgclpgppaa
open Go.RowKit

theorem ent_Earn1 : ∀ (xs : Array Value) (wx : World), (callFunc 35 xs).run Try.prog wx = .ok (.enter 35 xs) wx := enters_of Try.func35 (by kernel_rfl) rfl
theorem Earn1_any (x : Int) (w : World) : Calls Try.prog 35 (#[.int .i64 x] ++ #[]) w fun e w' => e = .returned (.int .i64 (s64 (x + 1))) ∧ w' = w := by
  have e1 := wrap_s (x + 1)
  obtain ⟨y, hy⟩ : ∃ y, s64 (x + 1) = y := ⟨_, rfl⟩
  rw [hy] at e1
  have HY := hide hy
  clear hy
  show Calls Try.prog 35 #[.int .i64 x] _ _
  go_enter Try.func35, Try.ntmps35
  go_wp2
  go_ret
  exact ⟨ret_int (by rw [HY.out]), rfl⟩
set_option maxRecDepth 100000 in
set_option maxHeartbeats 2000000 in
theorem Earn_yes (a b c : Int) (v : Value) (l : List Int) (j : Nat) (hj : j < l.length) (w : World) (h : Ints w v l) (hbig : l.length * 8 ≤ 140737488351232) :
    Calls Try.prog 16 #[lv a b c v, .int .i64 ((j : Int) + 1)] w fun e w' => ∃ v', e = .returned (lv (s64 (a + 1)) b c v') ∧ OwnB w.heap.size w' v' (l.set j (s64 (l[j] + 1))) ∧ Below w.heap.size w w' := by
  have hB : Below w.heap.size w w := Below.refl _ _
  have HI := hide h
  obtain ⟨A, n, rfl, hn1, hn2, -⟩ := id h
  unfold maxLen at hn2
  clear h
  have HT := hide (show lThere ⟨a, b, c, l⟩ ((j : Int) + 1) = true from there_iff.2 ⟨by omega, by show _ ≤ (l.length : Int); omega⟩)
  have e1 := wrap_s (a + 1)
  obtain ⟨a1, ha1⟩ : ∃ y, s64 (a + 1) = y := ⟨_, rfl⟩
  rw [ha1] at e1
  have HA1 := hide ha1
  clear ha1
  obtain ⟨w1, e1, hb1, hs1, X, Y⟩ := lbox2 w a b c (.slice A l.length n) 24 0 0 0 (.slice none 0 0) 24
  have HE1 := hide e1
  have X := hide X
  have Y := hide Y
  clear e1
  replace HI := hide (HI.out.below hb1)
  replace hB := bcall hB hb1
  clear hb1
  obtain ⟨X0, X1, X2, X3⟩ := X.out.all
  obtain ⟨X4, X5, X6, X7⟩ := X.out.free
  obtain ⟨Y0, Y1, Y2, Y3⟩ := Y.out.all
  obtain ⟨Y4, Y5, Y6, Y7⟩ := Y.out.free
  go_enter Try.func16, Try.ntmps16
  go_wp2_with fail
  rw [HE1.out]
  clear X0 X1 X2 X3 X4 X5 X6 X7 Y0 Y1 Y2 Y3 Y4 Y5 Y6 Y7
  (with_reducible refine (turned_yes 35 #[] 1 a b c _ l j hj _ HI.out hbig ent_Earn1 (fun x w' _ => Earn1_any x w')).mono ?_)
  rintro e w2 ⟨v', rfl, hown, hb2⟩
  replace X := hide (X.out.below hb2)
  replace Y := hide (Y.out.below hb2)
  replace HI := hide (HI.out.below hb2)
  replace hB := bcall hB hb2
  have hs2 := hb2.size
  clear hb2
  obtain ⟨r, hr⟩ : ∃ r, l.set j (s64 (l[j] + 1)) = r := ⟨_, rfl⟩
  rw [hr] at hown
  have HR := hide hr
  clear hr
  obtain ⟨A', c', rfl, q1, q2⟩ := own_form hown
  unfold maxLen at q2
  have HO := hide hown
  clear hown
  have Xz := X
  have Yz := Y
  have HIz := HI
  have HOz := HO
  have hA : Below w2.heap.size w2 w2 := Below.refl _ _
  obtain ⟨w3, e3, hb3, hs3, T⟩ := lbox w2 (a) (b) (c) (.slice A' r.length c') 24
  have HE3 := hide e3
  have T := hide T
  clear e3
  replace X := hide (X.out.below hb3)
  replace Y := hide (Y.out.below hb3)
  replace HI := hide (HI.out.below hb3)
  replace HO := hide (own_below HO.out hb3)
  replace hB := bcall hB hb3
  replace hA := bcall hA hb3
  clear hb3
  go_upto_region 2 with (fail)
  rw [HE3.out]
  obtain ⟨X0, X1, X2, X3⟩ := X.out.all
  obtain ⟨X4, X5, X6, X7⟩ := X.out.free
  obtain ⟨T0, T1, T2, T3⟩ := T.out.all
  obtain ⟨T4, T5, T6, T7⟩ := T.out.free
  have n1 : w.heap.size ≠ w2.heap.size := by omega
  have n2 : w2.heap.size ≠ w.heap.size := by omega
  have n3 : w.heap.size + 1 ≠ w2.heap.size := by omega
  have n4 : w2.heap.size ≠ w.heap.size + 1 := by omega
  go_upto_region 3 with (fail)
  clear X0 X1 X2 X3 X4 X5 X6 X7 T0 T1 T2 T3 T4 T5 T6 T7
  obtain ⟨w4, e4⟩ : ∃ w' : World, w3.setCell ⟨w2.heap.size, 0, none⟩ (.int .i64 a1) = w' := ⟨_, rfl⟩
  have HE4 := hide e4
  have T := T.out.put0 a1
  rw [e4] at T
  have T := hide T
  have hs4 : w4.heap.size = w3.heap.size := by rw [← e4]; exact set_size _ _ _
  replace hA := bset hA w2.heap.size 0 (Nat.le_refl _) (.int .i64 a1)
  rw [e4] at hA
  replace hB := bset hB w2.heap.size 0 (by omega) (.int .i64 a1)
  rw [e4] at hB
  replace X := hide (Xz.out.below hA)
  replace Y := hide (Yz.out.below hA)
  replace HI := hide (HIz.out.below hA)
  replace HO := hide (own_below HOz.out hA)
  clear e4
  rw [HE4.out]
  obtain ⟨X0, X1, X2, X3⟩ := X.out.all
  obtain ⟨X4, X5, X6, X7⟩ := X.out.free
  go_wp2_with fail
  clear X0 X1 X2 X3 X4 X5 X6 X7
  (with_reducible refine (hasMutator_any a b c _ l ((j : Int) + 1) _ HI.out).mono ?_)
  rintro e w5 ⟨rfl, hb5⟩
  replace X := hide (X.out.below hb5)
  replace Y := hide (Y.out.below hb5)
  replace T := hide (T.out.below hb5)
  replace HI := hide (HI.out.below hb5)
  replace HO := hide (own_below HO.out hb5)
  replace hB := bcall hB hb5
  replace hA := bcall hA hb5
  have hs5 := hb5.size
  clear hb5
  rw [HT.out]
  obtain ⟨T0, T1, T2, T3⟩ := T.out.all
  obtain ⟨T4, T5, T6, T7⟩ := T.out.free
  obtain ⟨Y0, Y1, Y2, Y3⟩ := Y.out.all
  obtain ⟨Y4, Y5, Y6, Y7⟩ := Y.out.free
  go_wp2
  refine bodyPost_ret (v := lv a1 b c (.slice A' r.length c')) (by simp [results, Try.results16, go_sem, Y0, Y1, Y2, Y3]) rfl ⟨.slice A' r.length c', by rw [HA1.out], ?_, ?_⟩
  · rw [HR.out]
    refine own_base (base := w1.heap.size) ?_ (by omega)
    repeat (first | (with_reducible exact HO.out) | (with_reducible refine ownsRow_setCell_below ?_ (by simp; omega) _) | (with_reducible refine row_drew ?_))
  · repeat (first | (with_reducible exact hB) | (with_reducible refine bset ?_ _ _ (by omega) _) | (with_reducible refine Below.drew ?_))
set_option maxRecDepth 100000 in
set_option maxHeartbeats 2000000 in
theorem Earn_no (a b c : Int) (v : Value) (l : List Int) (who : Int) (ht : lThere ⟨a, b, c, l⟩ who = false) (w : World) (h : Ints w v l) (hbig : l.length * 8 ≤ 140737488351232) :
    Calls Try.prog 16 #[lv a b c v, .int .i64 who] w fun e w' => ∃ v', e = .returned (lv (s64 (a + 1)) b (s64 (c + 1)) v') ∧ OwnB w.heap.size w' v' l ∧ Below w.heap.size w w' := by
  have hB : Below w.heap.size w w := Below.refl _ _
  have HI := hide h
  obtain ⟨A, n, rfl, hn1, hn2, -⟩ := id h
  unfold maxLen at hn2
  clear h
  have HT := hide ht
  clear ht
  have e1 := wrap_s (a + 1)
  obtain ⟨a1, ha1⟩ : ∃ y, s64 (a + 1) = y := ⟨_, rfl⟩
  rw [ha1] at e1
  have HA1 := hide ha1
  clear ha1
  have e2 := wrap_s (c + 1)
  obtain ⟨c1, hc1⟩ : ∃ y, s64 (c + 1) = y := ⟨_, rfl⟩
  rw [hc1] at e2
  have HC1 := hide hc1
  clear hc1
  obtain ⟨w1, e1, hb1, hs1, X, Y⟩ := lbox2 w a b c (.slice A l.length n) 24 0 0 0 (.slice none 0 0) 24
  have HE1 := hide e1
  have X := hide X
  have Y := hide Y
  clear e1
  replace HI := hide (HI.out.below hb1)
  replace hB := bcall hB hb1
  clear hb1
  obtain ⟨X0, X1, X2, X3⟩ := X.out.all
  obtain ⟨X4, X5, X6, X7⟩ := X.out.free
  obtain ⟨Y0, Y1, Y2, Y3⟩ := Y.out.all
  obtain ⟨Y4, Y5, Y6, Y7⟩ := Y.out.free
  go_enter Try.func16, Try.ntmps16
  go_wp2_with fail
  rw [HE1.out]
  clear X0 X1 X2 X3 X4 X5 X6 X7 Y0 Y1 Y2 Y3 Y4 Y5 Y6 Y7
  (with_reducible refine (turned_no _ a b c _ l who HT.out _ HI.out hbig).mono ?_)
  rintro e w2 ⟨v', rfl, hown, hb2⟩
  replace X := hide (X.out.below hb2)
  replace Y := hide (Y.out.below hb2)
  replace HI := hide (HI.out.below hb2)
  replace hB := bcall hB hb2
  have hs2 := hb2.size
  clear hb2
  obtain ⟨A', c', rfl, q1, q2⟩ := own_form hown
  unfold maxLen at q2
  have HO := hide hown
  clear hown
  have Xz := X
  have Yz := Y
  have HIz := HI
  have HOz := HO
  have hA : Below w2.heap.size w2 w2 := Below.refl _ _
  obtain ⟨w3, e3, hb3, hs3, T⟩ := lbox w2 (a) (b) (c) (.slice A' l.length c') 24
  have HE3 := hide e3
  have T := hide T
  clear e3
  replace X := hide (X.out.below hb3)
  replace Y := hide (Y.out.below hb3)
  replace HI := hide (HI.out.below hb3)
  replace HO := hide (own_below HO.out hb3)
  replace hB := bcall hB hb3
  replace hA := bcall hA hb3
  clear hb3
  go_upto_region 2 with (fail)
  rw [HE3.out]
  obtain ⟨X0, X1, X2, X3⟩ := X.out.all
  obtain ⟨X4, X5, X6, X7⟩ := X.out.free
  obtain ⟨T0, T1, T2, T3⟩ := T.out.all
  obtain ⟨T4, T5, T6, T7⟩ := T.out.free
  have n1 : w.heap.size ≠ w2.heap.size := by omega
  have n2 : w2.heap.size ≠ w.heap.size := by omega
  have n3 : w.heap.size + 1 ≠ w2.heap.size := by omega
  have n4 : w2.heap.size ≠ w.heap.size + 1 := by omega
  go_upto_region 3 with (fail)
  clear X0 X1 X2 X3 X4 X5 X6 X7 T0 T1 T2 T3 T4 T5 T6 T7
  obtain ⟨w4, e4⟩ : ∃ w' : World, w3.setCell ⟨w2.heap.size, 0, none⟩ (.int .i64 a1) = w' := ⟨_, rfl⟩
  have HE4 := hide e4
  have T := T.out.put0 a1
  rw [e4] at T
  have T := hide T
  have hs4 : w4.heap.size = w3.heap.size := by rw [← e4]; exact set_size _ _ _
  replace hA := bset hA w2.heap.size 0 (Nat.le_refl _) (.int .i64 a1)
  rw [e4] at hA
  replace hB := bset hB w2.heap.size 0 (by omega) (.int .i64 a1)
  rw [e4] at hB
  replace X := hide (Xz.out.below hA)
  replace Y := hide (Yz.out.below hA)
  replace HI := hide (HIz.out.below hA)
  replace HO := hide (own_below HOz.out hA)
  clear e4
  rw [HE4.out]
  obtain ⟨X0, X1, X2, X3⟩ := X.out.all
  obtain ⟨X4, X5, X6, X7⟩ := X.out.free
  go_wp2_with fail
  clear X0 X1 X2 X3 X4 X5 X6 X7
  (with_reducible refine (hasMutator_any a b c _ l who _ HI.out).mono ?_)
  rintro e w5 ⟨rfl, hb5⟩
  replace X := hide (X.out.below hb5)
  replace Y := hide (Y.out.below hb5)
  replace T := hide (T.out.below hb5)
  replace HI := hide (HI.out.below hb5)
  replace HO := hide (own_below HO.out hb5)
  replace hB := bcall hB hb5
  replace hA := bcall hA hb5
  have hs5 := hb5.size
  clear hb5
  rw [HT.out]
  obtain ⟨T0, T1, T2, T3⟩ := T.out.all
  obtain ⟨T4, T5, T6, T7⟩ := T.out.free
  obtain ⟨Y0, Y1, Y2, Y3⟩ := Y.out.all
  obtain ⟨Y4, Y5, Y6, Y7⟩ := Y.out.free
  go_upto_region 5 with (fail)
  clear T0 T1 T2 T3 T4 T5 T6 T7 Y0 Y1 Y2 Y3 Y4 Y5 Y6 Y7
  obtain ⟨w6, e6⟩ : ∃ w' : World, w5.setCell ⟨w2.heap.size, 2, none⟩ (.int .i64 c1) = w' := ⟨_, rfl⟩
  have HE6 := hide e6
  have T := T.out.put2 c1
  rw [e6] at T
  have T := hide T
  have hs6 : w6.heap.size = w5.heap.size := by rw [← e6]; exact set_size _ _ _
  replace hA := bset hA w2.heap.size 2 (Nat.le_refl _) (.int .i64 c1)
  rw [e6] at hA
  replace hB := bset hB w2.heap.size 2 (by omega) (.int .i64 c1)
  rw [e6] at hB
  replace X := hide (Xz.out.below hA)
  replace Y := hide (Yz.out.below hA)
  replace HI := hide (HIz.out.below hA)
  replace HO := hide (own_below HOz.out hA)
  clear e6
  rw [HE6.out]
  obtain ⟨T0, T1, T2, T3⟩ := T.out.all
  obtain ⟨T4, T5, T6, T7⟩ := T.out.free
  obtain ⟨Y0, Y1, Y2, Y3⟩ := Y.out.all
  obtain ⟨Y4, Y5, Y6, Y7⟩ := Y.out.free
  go_wp2
  refine bodyPost_ret (v := lv a1 b c1 (.slice A' l.length c')) (by simp [results, Try.results16, go_sem, Y0, Y1, Y2, Y3]) rfl ⟨.slice A' l.length c', by rw [HA1.out, HC1.out], ?_, ?_⟩
  · skip
    refine own_base (base := w1.heap.size) ?_ (by omega)
    repeat (first | (with_reducible exact HO.out) | (with_reducible refine ownsRow_setCell_below ?_ (by simp; omega) _) | (with_reducible refine row_drew ?_))
  · repeat (first | (with_reducible exact hB) | (with_reducible refine bset ?_ _ _ (by omega) _) | (with_reducible refine Below.drew ?_))
theorem lPut_at (l : List Int) {j : Nat} (hj : j < l.length) (d : Int) : lPut l ((j : Int) + 1) d = l.set j (s64 (l[j] + d)) := by
  unfold lPut
  rw [show ((j : Int) + 1 - 1).toNat = j by omega, List.getD_eq_getElem?_getD, List.getElem?_eq_getElem hj]; rfl
theorem Earn_any (a b c : Int) (v : Value) (l : List Int) (who : Int) (w : World) (h : Ints w v l) (hbig : l.length * 8 ≤ 140737488351232) (R : Lg) (hR : lEarn ⟨a, b, c, l⟩ who = R) :
    Calls Try.prog 16 #[lv a b c v, .int .i64 who] w fun e w' => ∃ v', e = .returned (lv R.scanned R.spent R.pool v') ∧ OwnB w.heap.size w' v' R.bal ∧ Below w.heap.size w w' := by
  subst hR
  cases ht : lThere ⟨a, b, c, l⟩ who
  · have e : lEarn ⟨a, b, c, l⟩ who = ⟨s64 (a + 1), b, s64 (c + 1), l⟩ := by unfold lEarn; rw [ht]; rfl
    rw [e]
    exact Earn_no a b c v l who ht w h hbig
  · obtain ⟨j, rfl, -, hj⟩ := there_at ht
    simp only at hj
    have e : lEarn ⟨a, b, c, l⟩ ((j : Int) + 1) = ⟨s64 (a + 1), b, c, l.set j (s64 (l[j] + 1))⟩ := by unfold lEarn; rw [ht, if_pos rfl, lPut_at l hj]
    rw [e]
    exact Earn_yes a b c v l j hj w h hbig
end Go.Proofs.Ytgbkphgclpgppaa
