/- Layer ledger: Take. -/
import Derived.Test.YtgbkphgclpgppaaLedgerTurn
import Derived.Deep.Cut
import Derived.Shelf.Abstract
import Derived.Deep.RegionHeld3
namespace Go.Proofs.Ytgbkphgclpgppaa
open Go.RowKit

theorem pbox (w : World) (x : Int) (t : TypeId) : ∃ w1, w.alloc (.cells #[.int .i64 x] t) = w1 ∧ Below w.heap.size w w1 ∧ w1.heap.size = w.heap.size + 1 ∧ w1.cell? ⟨w.heap.size, 0, none⟩ = some (.int .i64 x) ∧ w1.frozen? ⟨w.heap.size, 0, none⟩ = false :=
  ⟨_, rfl, bal _ _, by simp, Joins.cell_of_block (heap_alloc_new w _) 0, Joins.unfrozen_of_block (heap_alloc_new w _) 0⟩
theorem ent_Take1 : ∀ (xs : Array Value) (wx : World), (callFunc 31 xs).run Try.prog wx = .ok (.enter 31 xs) wx := enters_of Try.func31 (by kernel_rfl) rfl
theorem Take1_any (B : Nat) (t x : Int) (w : World) (h : w.cell? ⟨B, 0, none⟩ = some (.int .i64 t)) : Calls Try.prog 31 (#[.int .i64 x] ++ #[.pointer (some ⟨B, 0, none⟩)]) w fun e w' => e = .returned (.int .i64 (s64 (x + t))) ∧ w' = w := by
  have e1 := wrap_s (x + t)
  have ed : x + t = x + t := by omega
  obtain ⟨y, hy⟩ : ∃ y, s64 (x + t) = y := ⟨_, rfl⟩
  rw [hy] at e1
  rw [ed] at hy
  have HY := hide hy
  clear hy ed
  show Calls Try.prog 31 #[.int .i64 x, .pointer (some ⟨B, 0, none⟩)] _ _
  go_enter Try.func31, Try.ntmps31
  go_wp2
  go_ret
  exact ⟨ret_int (by rw [HY.out]), rfl⟩
set_option maxRecDepth 100000 in
set_option maxHeartbeats 2000000 in
theorem Take_off0 (a b c : Int) (v : Value) (l : List Int) (who want : Int) (ht : lThere ⟨a, b, c, l⟩ who = false) (w : World) (h : Ints w v l) (hbig : l.length * 8 ≤ 140737488351232) :
    Calls Try.prog 11 #[lv a b c v, .int .i64 who, .int .i64 want] w fun e w' => ∃ v', e = .returned (.tuple #[lv a b c v', .int .i64 0]) ∧ OwnB w.heap.size w' v' l ∧ Below w.heap.size w w' := by
  have hB : Below w.heap.size w w := Below.refl _ _
  have HI := hide h
  obtain ⟨A, n, rfl, hn1, hn2, -⟩ := id h
  unfold maxLen at hn2
  clear h
  have HT := hide ht
  clear ht
  obtain ⟨w1, e1, hb1, hs1, X, Y⟩ := lbox2 w a b c (.slice A l.length n) 24 0 0 0 (.slice none 0 0) 24
  have HE1 := hide e1
  have X := hide X
  have Y := hide Y
  clear e1
  replace HI := hide (HI.out.below hb1)
  replace hB := bcall hB hb1
  clear hb1
  obtain ⟨X0, X1, X2, X3⟩ := X.out.all
  obtain ⟨X4, X5, X6, X7⟩ := X.out.free
  obtain ⟨Y0, Y1, Y2, Y3⟩ := Y.out.all
  obtain ⟨Y4, Y5, Y6, Y7⟩ := Y.out.free
  go_enter Try.func11, Try.ntmps11
  go_wp2_with fail
  rw [HE1.out]
  clear X0 X1 X2 X3 X4 X5 X6 X7 Y0 Y1 Y2 Y3 Y4 Y5 Y6 Y7
  (with_reducible refine (hasMutator_any a b c _ l who _ HI.out).mono ?_)
  rintro e w2 ⟨rfl, hb2⟩
  replace X := hide (X.out.below hb2)
  replace Y := hide (Y.out.below hb2)
  replace HI := hide (HI.out.below hb2)
  replace hB := bcall hB hb2
  have hs2 := hb2.size
  clear hb2
  rw [HT.out]
  obtain ⟨X0, X1, X2, X3⟩ := X.out.all
  obtain ⟨X4, X5, X6, X7⟩ := X.out.free
  obtain ⟨Y0, Y1, Y2, Y3⟩ := Y.out.all
  obtain ⟨Y4, Y5, Y6, Y7⟩ := Y.out.free
  go_wp2_with fail
  clear X0 X1 X2 X3 X4 X5 X6 X7 Y0 Y1 Y2 Y3 Y4 Y5 Y6 Y7
  (with_reducible refine (copied_any a b c _ l _ HI.out hbig).mono ?_)
  rintro e w3 ⟨v', rfl, hown, hb3⟩
  replace X := hide (X.out.below hb3)
  replace Y := hide (Y.out.below hb3)
  replace HI := hide (HI.out.below hb3)
  replace hB := bcall hB hb3
  have hs3 := hb3.size
  clear hb3
  obtain ⟨A', c', rfl, q1, q2⟩ := own_form hown
  unfold maxLen at q2
  have HO := hide hown
  clear hown
  obtain ⟨X0, X1, X2, X3⟩ := X.out.all
  obtain ⟨X4, X5, X6, X7⟩ := X.out.free
  obtain ⟨Y0, Y1, Y2, Y3⟩ := Y.out.all
  obtain ⟨Y4, Y5, Y6, Y7⟩ := Y.out.free
  go_wp2
  refine bodyPost_ret (v := .tuple #[lv a b c (.slice A' l.length c'), .int .i64 0]) (by simp [results, Try.results11, go_sem, Y0, Y1, Y2, Y3]) rfl ⟨.slice A' l.length c', rfl, ?_, ?_⟩
  · skip
    refine own_base (base := w2.heap.size + 2) ?_ (by omega)
    repeat (first | (with_reducible exact HO.out) | (with_reducible refine ownsRow_setCell_below ?_ (by simp; omega) _) | (with_reducible refine row_drew ?_))
  · repeat (first | (with_reducible exact hB) | (with_reducible refine bset ?_ _ _ (by omega) _) | (with_reducible refine Below.drew ?_))
set_option maxRecDepth 100000 in
set_option maxHeartbeats 2000000 in
theorem Take_off1 (a b c : Int) (v : Value) (l : List Int) (who want : Int) (ht : lThere ⟨a, b, c, l⟩ who = true) (hw : want ≤ 0) (w : World) (h : Ints w v l) (hbig : l.length * 8 ≤ 140737488351232) :
    Calls Try.prog 11 #[lv a b c v, .int .i64 who, .int .i64 want] w fun e w' => ∃ v', e = .returned (.tuple #[lv a b c v', .int .i64 0]) ∧ OwnB w.heap.size w' v' l ∧ Below w.heap.size w w' := by
  have hB : Below w.heap.size w w := Below.refl _ _
  have HI := hide h
  obtain ⟨A, n, rfl, hn1, hn2, -⟩ := id h
  unfold maxLen at hn2
  clear h
  have HT := hide ht
  have HW := hide hw
  clear ht
  obtain ⟨w1, e1, hb1, hs1, X, Y⟩ := lbox2 w a b c (.slice A l.length n) 24 0 0 0 (.slice none 0 0) 24
  have HE1 := hide e1
  have X := hide X
  have Y := hide Y
  clear e1
  replace HI := hide (HI.out.below hb1)
  replace hB := bcall hB hb1
  clear hb1
  obtain ⟨X0, X1, X2, X3⟩ := X.out.all
  obtain ⟨X4, X5, X6, X7⟩ := X.out.free
  obtain ⟨Y0, Y1, Y2, Y3⟩ := Y.out.all
  obtain ⟨Y4, Y5, Y6, Y7⟩ := Y.out.free
  go_enter Try.func11, Try.ntmps11
  go_wp2_with fail
  rw [HE1.out]
  clear X0 X1 X2 X3 X4 X5 X6 X7 Y0 Y1 Y2 Y3 Y4 Y5 Y6 Y7
  (with_reducible refine (hasMutator_any a b c _ l who _ HI.out).mono ?_)
  rintro e w2 ⟨rfl, hb2⟩
  replace X := hide (X.out.below hb2)
  replace Y := hide (Y.out.below hb2)
  replace HI := hide (HI.out.below hb2)
  replace hB := bcall hB hb2
  have hs2 := hb2.size
  clear hb2
  rw [HT.out]
  obtain ⟨X0, X1, X2, X3⟩ := X.out.all
  obtain ⟨X4, X5, X6, X7⟩ := X.out.free
  obtain ⟨Y0, Y1, Y2, Y3⟩ := Y.out.all
  obtain ⟨Y4, Y5, Y6, Y7⟩ := Y.out.free
  go_wp2_with fail
  clear X0 X1 X2 X3 X4 X5 X6 X7 Y0 Y1 Y2 Y3 Y4 Y5 Y6 Y7
  (with_reducible refine (copied_any a b c _ l _ HI.out hbig).mono ?_)
  rintro e w3 ⟨v', rfl, hown, hb3⟩
  replace X := hide (X.out.below hb3)
  replace Y := hide (Y.out.below hb3)
  replace HI := hide (HI.out.below hb3)
  replace hB := bcall hB hb3
  have hs3 := hb3.size
  clear hb3
  obtain ⟨A', c', rfl, q1, q2⟩ := own_form hown
  unfold maxLen at q2
  have HO := hide hown
  clear hown
  obtain ⟨X0, X1, X2, X3⟩ := X.out.all
  obtain ⟨X4, X5, X6, X7⟩ := X.out.free
  obtain ⟨Y0, Y1, Y2, Y3⟩ := Y.out.all
  obtain ⟨Y4, Y5, Y6, Y7⟩ := Y.out.free
  go_wp2
  refine bodyPost_ret (v := .tuple #[lv a b c (.slice A' l.length c'), .int .i64 0]) (by simp [results, Try.results11, go_sem, Y0, Y1, Y2, Y3]) rfl ⟨.slice A' l.length c', rfl, ?_, ?_⟩
  · skip
    refine own_base (base := w2.heap.size + 2) ?_ (by omega)
    repeat (first | (with_reducible exact HO.out) | (with_reducible refine ownsRow_setCell_below ?_ (by simp; omega) _) | (with_reducible refine row_drew ?_))
  · repeat (first | (with_reducible exact hB) | (with_reducible refine bset ?_ _ _ (by omega) _) | (with_reducible refine Below.drew ?_))
set_option maxRecDepth 100000 in
set_option maxHeartbeats 2000000 in
theorem Take_off2 (a b c : Int) (v : Value) (l : List Int) (who want : Int) (ht : lThere ⟨a, b, c, l⟩ who = true) (hw0 : 0 < want) (hw : c ≤ 0) (w : World) (h : Ints w v l) (hbig : l.length * 8 ≤ 140737488351232) :
    Calls Try.prog 11 #[lv a b c v, .int .i64 who, .int .i64 want] w fun e w' => ∃ v', e = .returned (.tuple #[lv a b c v', .int .i64 0]) ∧ OwnB w.heap.size w' v' l ∧ Below w.heap.size w w' := by
  have hB : Below w.heap.size w w := Below.refl _ _
  have HI := hide h
  obtain ⟨A, n, rfl, hn1, hn2, -⟩ := id h
  unfold maxLen at hn2
  clear h
  have HT := hide ht
  have HW := hide hw
  clear ht
  obtain ⟨w1, e1, hb1, hs1, X, Y⟩ := lbox2 w a b c (.slice A l.length n) 24 0 0 0 (.slice none 0 0) 24
  have HE1 := hide e1
  have X := hide X
  have Y := hide Y
  clear e1
  replace HI := hide (HI.out.below hb1)
  replace hB := bcall hB hb1
  clear hb1
  obtain ⟨X0, X1, X2, X3⟩ := X.out.all
  obtain ⟨X4, X5, X6, X7⟩ := X.out.free
  obtain ⟨Y0, Y1, Y2, Y3⟩ := Y.out.all
  obtain ⟨Y4, Y5, Y6, Y7⟩ := Y.out.free
  go_enter Try.func11, Try.ntmps11
  go_wp2_with fail
  rw [HE1.out]
  clear X0 X1 X2 X3 X4 X5 X6 X7 Y0 Y1 Y2 Y3 Y4 Y5 Y6 Y7
  (with_reducible refine (hasMutator_any a b c _ l who _ HI.out).mono ?_)
  rintro e w2 ⟨rfl, hb2⟩
  replace X := hide (X.out.below hb2)
  replace Y := hide (Y.out.below hb2)
  replace HI := hide (HI.out.below hb2)
  replace hB := bcall hB hb2
  have hs2 := hb2.size
  clear hb2
  rw [HT.out]
  obtain ⟨X0, X1, X2, X3⟩ := X.out.all
  obtain ⟨X4, X5, X6, X7⟩ := X.out.free
  obtain ⟨Y0, Y1, Y2, Y3⟩ := Y.out.all
  obtain ⟨Y4, Y5, Y6, Y7⟩ := Y.out.free
  go_wp2_with fail
  clear X0 X1 X2 X3 X4 X5 X6 X7 Y0 Y1 Y2 Y3 Y4 Y5 Y6 Y7
  (with_reducible refine (copied_any a b c _ l _ HI.out hbig).mono ?_)
  rintro e w3 ⟨v', rfl, hown, hb3⟩
  replace X := hide (X.out.below hb3)
  replace Y := hide (Y.out.below hb3)
  replace HI := hide (HI.out.below hb3)
  replace hB := bcall hB hb3
  have hs3 := hb3.size
  clear hb3
  obtain ⟨A', c', rfl, q1, q2⟩ := own_form hown
  unfold maxLen at q2
  have HO := hide hown
  clear hown
  obtain ⟨X0, X1, X2, X3⟩ := X.out.all
  obtain ⟨X4, X5, X6, X7⟩ := X.out.free
  obtain ⟨Y0, Y1, Y2, Y3⟩ := Y.out.all
  obtain ⟨Y4, Y5, Y6, Y7⟩ := Y.out.free
  go_wp2
  refine bodyPost_ret (v := .tuple #[lv a b c (.slice A' l.length c'), .int .i64 0]) (by simp [results, Try.results11, go_sem, Y0, Y1, Y2, Y3]) rfl ⟨.slice A' l.length c', rfl, ?_, ?_⟩
  · skip
    refine own_base (base := w2.heap.size + 2) ?_ (by omega)
    repeat (first | (with_reducible exact HO.out) | (with_reducible refine ownsRow_setCell_below ?_ (by simp; omega) _) | (with_reducible refine row_drew ?_))
  · repeat (first | (with_reducible exact hB) | (with_reducible refine bset ?_ _ _ (by omega) _) | (with_reducible refine Below.drew ?_))
set_option maxRecDepth 100000 in
set_option maxHeartbeats 2000000 in
theorem Take_want (a b c : Int) (v : Value) (l : List Int) (j : Nat) (hj : j < l.length) (want : Int) (hw : 0 < want) (hc : 0 < c) (hle : want ≤ c) (w : World) (h : Ints w v l) (hbig : l.length * 8 ≤ 140737488351232) :
    Calls Try.prog 11 #[lv a b c v, .int .i64 ((j : Int) + 1), .int .i64 want] w fun e w' => ∃ v', e = .returned (.tuple #[lv a b (s64 (c - want)) v', .int .i64 want]) ∧ OwnB w.heap.size w' v' (l.set j (s64 (l[j] + want))) ∧ Below w.heap.size w w' := by
  have hB : Below w.heap.size w w := Below.refl _ _
  have HI := hide h
  obtain ⟨A, n, rfl, hn1, hn2, -⟩ := id h
  unfold maxLen at hn2
  clear h
  have HT := hide (show lThere ⟨a, b, c, l⟩ ((j : Int) + 1) = true from there_iff.2 ⟨by omega, by show _ ≤ (l.length : Int); omega⟩)
  have e2 := wrap_s (c - want)
  obtain ⟨c1, hc1⟩ : ∃ y, s64 (c - want) = y := ⟨_, rfl⟩
  rw [hc1] at e2
  have HC1 := hide hc1
  clear hc1
  obtain ⟨w1, e1, hb1, hs1, X, Y⟩ := lbox2 w a b c (.slice A l.length n) 24 0 0 0 (.slice none 0 0) 24
  have HE1 := hide e1
  have X := hide X
  have Y := hide Y
  clear e1
  replace HI := hide (HI.out.below hb1)
  replace hB := bcall hB hb1
  clear hb1
  obtain ⟨X0, X1, X2, X3⟩ := X.out.all
  obtain ⟨X4, X5, X6, X7⟩ := X.out.free
  obtain ⟨Y0, Y1, Y2, Y3⟩ := Y.out.all
  obtain ⟨Y4, Y5, Y6, Y7⟩ := Y.out.free
  go_enter Try.func11, Try.ntmps11
  have hmf : ∀ (fn : Fn) (first cap : Array Value) (w : World), (Instr.makeFunc fn first cap).run Try.prog w = .ok (.func fn first cap) w := fun _ _ _ _ => rfl
  go_wp2_with fail
  rw [HE1.out]
  clear X0 X1 X2 X3 X4 X5 X6 X7 Y0 Y1 Y2 Y3 Y4 Y5 Y6 Y7
  (with_reducible refine (hasMutator_any a b c _ l ((j : Int) + 1) _ HI.out).mono ?_)
  rintro e w2 ⟨rfl, hb2⟩
  replace X := hide (X.out.below hb2)
  replace Y := hide (Y.out.below hb2)
  replace HI := hide (HI.out.below hb2)
  replace hB := bcall hB hb2
  have hs2 := hb2.size
  clear hb2
  rw [HT.out]
  obtain ⟨X0, X1, X2, X3⟩ := X.out.all
  obtain ⟨X4, X5, X6, X7⟩ := X.out.free
  obtain ⟨Y0, Y1, Y2, Y3⟩ := Y.out.all
  obtain ⟨Y4, Y5, Y6, Y7⟩ := Y.out.free
  have Xa0 := fun ob => (X.out.below (bal w2 ob)).all.1
  have Xa1 := fun ob => (X.out.below (bal w2 ob)).all.2.1
  have Xa2 := fun ob => (X.out.below (bal w2 ob)).all.2.2.1
  have Xa3 := fun ob => (X.out.below (bal w2 ob)).all.2.2.2
  go_upto_region 4 with (fail)
  obtain ⟨w3, e3, hb3, hs3, t0, t1⟩ := pbox w2 want 2
  rw [e3]
  clear X0 X1 X2 X3 X4 X5 X6 X7 Y0 Y1 Y2 Y3 Y4 Y5 Y6 Y7 Xa0 Xa1 Xa2 Xa3
  replace X := hide (X.out.below hb3)
  replace Y := hide (Y.out.below hb3)
  replace HI := hide (HI.out.below hb3)
  replace hB := bcall hB hb3
  clear hb3 e3
  obtain ⟨X0, X1, X2, X3⟩ := X.out.all
  obtain ⟨X4, X5, X6, X7⟩ := X.out.free
  have HCL := hide (fun (x : Int) (w' : World) (hb : Below w3.heap.size w3 w') => Take1_any w2.heap.size want x w' (keepc hb t0))
  go_wp2_with fail
  clear X0 X1 X2 X3 X4 X5 X6 X7
  (with_reducible refine (turned_yes 31 #[.pointer (some ⟨w2.heap.size, 0, none⟩)] want a b c _ l j hj _ HI.out hbig ent_Take1 HCL.out).mono ?_)
  rintro e w4 ⟨v', rfl, hown, hb4⟩
  replace X := hide (X.out.below hb4)
  replace Y := hide (Y.out.below hb4)
  replace HI := hide (HI.out.below hb4)
  replace t1 := keepf hb4 t0 t1
  replace t0 := keepc hb4 t0
  replace hB := bcall hB hb4
  have hs4 := hb4.size
  clear hb4
  clear HCL
  obtain ⟨r, hr⟩ : ∃ r, l.set j (s64 (l[j] + want)) = r := ⟨_, rfl⟩
  rw [hr] at hown
  have HR := hide hr
  clear hr
  obtain ⟨A', c', rfl, q1, q2⟩ := own_form hown
  unfold maxLen at q2
  have HO := hide hown
  clear hown
  have Xz := X
  have Yz := Y
  have HIz := HI
  have HOz := HO
  have t0z := t0
  have hA : Below w4.heap.size w4 w4 := Below.refl _ _
  obtain ⟨w5, e5, hb5, hs5, T⟩ := lbox w4 (a) (b) (c) (.slice A' r.length c') 24
  have HE5 := hide e5
  have T := hide T
  clear e5
  replace X := hide (X.out.below hb5)
  replace Y := hide (Y.out.below hb5)
  replace HI := hide (HI.out.below hb5)
  replace HO := hide (own_below HO.out hb5)
  replace t1 := keepf hb5 t0 t1
  replace t0 := keepc hb5 t0
  replace hB := bcall hB hb5
  replace hA := bcall hA hb5
  clear hb5
  go_upto_region 5 with (fail)
  rw [HE5.out]
  obtain ⟨T0, T1, T2, T3⟩ := T.out.all
  obtain ⟨T4, T5, T6, T7⟩ := T.out.free
  go_upto_region 6 with (fail)
  clear T0 T1 T2 T3 T4 T5 T6 T7
  obtain ⟨w6, e6⟩ : ∃ w' : World, w5.setCell ⟨w4.heap.size, 2, none⟩ (.int .i64 c1) = w' := ⟨_, rfl⟩
  have HE6 := hide e6
  have T := T.out.put2 c1
  rw [e6] at T
  have T := hide T
  have hs6 : w6.heap.size = w5.heap.size := by rw [← e6]; exact set_size _ _ _
  replace hA := bset hA w4.heap.size 2 (Nat.le_refl _) (.int .i64 c1)
  rw [e6] at hA
  replace hB := bset hB w4.heap.size 2 (by omega) (.int .i64 c1)
  rw [e6] at hB
  replace X := hide (Xz.out.below hA)
  replace Y := hide (Yz.out.below hA)
  replace HI := hide (HIz.out.below hA)
  replace HO := hide (own_below HOz.out hA)
  replace t0 := keepc hA t0z
  clear e6
  rw [HE6.out]
  obtain ⟨T0, T1, T2, T3⟩ := T.out.all
  obtain ⟨T4, T5, T6, T7⟩ := T.out.free
  obtain ⟨Y0, Y1, Y2, Y3⟩ := Y.out.all
  obtain ⟨Y4, Y5, Y6, Y7⟩ := Y.out.free
  go_wp2
  go_region_with (fail)
  all_goals
    go_wp2
    refine bodyPost_ret (v := .tuple #[lv a b c1 (.slice A' r.length c'), .int .i64 want]) (by simp [results, Try.results11, go_sem, Y0, Y1, Y2, Y3]) rfl ⟨.slice A' r.length c', by rw [HC1.out], ?_, ?_⟩
    · rw [HR.out]
      refine own_base (base := w3.heap.size) ?_ (by omega)
      repeat (first | (with_reducible exact HO.out) | (with_reducible refine ownsRow_setCell_below ?_ (by simp; omega) _) | (with_reducible refine row_drew ?_))
    · repeat (first | (with_reducible exact hB) | (with_reducible refine bset ?_ _ _ (by omega) _) | (with_reducible refine Below.drew ?_))
set_option maxRecDepth 100000 in
set_option maxHeartbeats 2000000 in
theorem Take_pool (a b c : Int) (v : Value) (l : List Int) (j : Nat) (hj : j < l.length) (want : Int) (hw : 0 < want) (hc : 0 < c) (hle : c < want) (w : World) (h : Ints w v l) (hbig : l.length * 8 ≤ 140737488351232) :
    Calls Try.prog 11 #[lv a b c v, .int .i64 ((j : Int) + 1), .int .i64 want] w fun e w' => ∃ v', e = .returned (.tuple #[lv a b (s64 (c - c)) v', .int .i64 c]) ∧ OwnB w.heap.size w' v' (l.set j (s64 (l[j] + c))) ∧ Below w.heap.size w w' := by
  have hB : Below w.heap.size w w := Below.refl _ _
  have HI := hide h
  obtain ⟨A, n, rfl, hn1, hn2, -⟩ := id h
  unfold maxLen at hn2
  clear h
  have HT := hide (show lThere ⟨a, b, c, l⟩ ((j : Int) + 1) = true from there_iff.2 ⟨by omega, by show _ ≤ (l.length : Int); omega⟩)
  have HC1 := hide (show s64 (c - c) = 0 by rw [Int.sub_self]; rfl)
  obtain ⟨w1, e1, hb1, hs1, X, Y⟩ := lbox2 w a b c (.slice A l.length n) 24 0 0 0 (.slice none 0 0) 24
  have HE1 := hide e1
  have X := hide X
  have Y := hide Y
  clear e1
  replace HI := hide (HI.out.below hb1)
  replace hB := bcall hB hb1
  clear hb1
  obtain ⟨X0, X1, X2, X3⟩ := X.out.all
  obtain ⟨X4, X5, X6, X7⟩ := X.out.free
  obtain ⟨Y0, Y1, Y2, Y3⟩ := Y.out.all
  obtain ⟨Y4, Y5, Y6, Y7⟩ := Y.out.free
  go_enter Try.func11, Try.ntmps11
  have hmf : ∀ (fn : Fn) (first cap : Array Value) (w : World), (Instr.makeFunc fn first cap).run Try.prog w = .ok (.func fn first cap) w := fun _ _ _ _ => rfl
  go_wp2_with fail
  rw [HE1.out]
  clear X0 X1 X2 X3 X4 X5 X6 X7 Y0 Y1 Y2 Y3 Y4 Y5 Y6 Y7
  (with_reducible refine (hasMutator_any a b c _ l ((j : Int) + 1) _ HI.out).mono ?_)
  rintro e w2 ⟨rfl, hb2⟩
  replace X := hide (X.out.below hb2)
  replace Y := hide (Y.out.below hb2)
  replace HI := hide (HI.out.below hb2)
  replace hB := bcall hB hb2
  have hs2 := hb2.size
  clear hb2
  rw [HT.out]
  obtain ⟨X0, X1, X2, X3⟩ := X.out.all
  obtain ⟨X4, X5, X6, X7⟩ := X.out.free
  obtain ⟨Y0, Y1, Y2, Y3⟩ := Y.out.all
  obtain ⟨Y4, Y5, Y6, Y7⟩ := Y.out.free
  have Xa0 := fun ob => (X.out.below (bal w2 ob)).all.1
  have Xa1 := fun ob => (X.out.below (bal w2 ob)).all.2.1
  have Xa2 := fun ob => (X.out.below (bal w2 ob)).all.2.2.1
  have Xa3 := fun ob => (X.out.below (bal w2 ob)).all.2.2.2
  go_upto_region 4 with (fail)
  obtain ⟨w3, e3, hb3, hs3, t0, t1⟩ := pbox w2 c 2
  rw [e3]
  clear X0 X1 X2 X3 X4 X5 X6 X7 Y0 Y1 Y2 Y3 Y4 Y5 Y6 Y7 Xa0 Xa1 Xa2 Xa3
  replace X := hide (X.out.below hb3)
  replace Y := hide (Y.out.below hb3)
  replace HI := hide (HI.out.below hb3)
  replace hB := bcall hB hb3
  clear hb3 e3
  obtain ⟨X0, X1, X2, X3⟩ := X.out.all
  obtain ⟨X4, X5, X6, X7⟩ := X.out.free
  have HCL := hide (fun (x : Int) (w' : World) (hb : Below w3.heap.size w3 w') => Take1_any w2.heap.size c x w' (keepc hb t0))
  go_wp2_with fail
  clear X0 X1 X2 X3 X4 X5 X6 X7
  (with_reducible refine (turned_yes 31 #[.pointer (some ⟨w2.heap.size, 0, none⟩)] c a b c _ l j hj _ HI.out hbig ent_Take1 HCL.out).mono ?_)
  rintro e w4 ⟨v', rfl, hown, hb4⟩
  replace X := hide (X.out.below hb4)
  replace Y := hide (Y.out.below hb4)
  replace HI := hide (HI.out.below hb4)
  replace t1 := keepf hb4 t0 t1
  replace t0 := keepc hb4 t0
  replace hB := bcall hB hb4
  have hs4 := hb4.size
  clear hb4
  clear HCL
  obtain ⟨r, hr⟩ : ∃ r, l.set j (s64 (l[j] + c)) = r := ⟨_, rfl⟩
  rw [hr] at hown
  have HR := hide hr
  clear hr
  obtain ⟨A', c', rfl, q1, q2⟩ := own_form hown
  unfold maxLen at q2
  have HO := hide hown
  clear hown
  have Xz := X
  have Yz := Y
  have HIz := HI
  have HOz := HO
  have t0z := t0
  have hA : Below w4.heap.size w4 w4 := Below.refl _ _
  obtain ⟨w5, e5, hb5, hs5, T⟩ := lbox w4 (a) (b) (c) (.slice A' r.length c') 24
  have HE5 := hide e5
  have T := hide T
  clear e5
  replace X := hide (X.out.below hb5)
  replace Y := hide (Y.out.below hb5)
  replace HI := hide (HI.out.below hb5)
  replace HO := hide (own_below HO.out hb5)
  replace t1 := keepf hb5 t0 t1
  replace t0 := keepc hb5 t0
  replace hB := bcall hB hb5
  replace hA := bcall hA hb5
  clear hb5
  go_upto_region 5 with (fail)
  rw [HE5.out]
  obtain ⟨T0, T1, T2, T3⟩ := T.out.all
  obtain ⟨T4, T5, T6, T7⟩ := T.out.free
  go_upto_region 6 with (fail)
  clear T0 T1 T2 T3 T4 T5 T6 T7
  obtain ⟨w6, e6⟩ : ∃ w' : World, w5.setCell ⟨w4.heap.size, 2, none⟩ (.int .i64 0) = w' := ⟨_, rfl⟩
  have HE6 := hide e6
  have T := T.out.put2 0
  rw [e6] at T
  have T := hide T
  have hs6 : w6.heap.size = w5.heap.size := by rw [← e6]; exact set_size _ _ _
  replace hA := bset hA w4.heap.size 2 (Nat.le_refl _) (.int .i64 0)
  rw [e6] at hA
  replace hB := bset hB w4.heap.size 2 (by omega) (.int .i64 0)
  rw [e6] at hB
  replace X := hide (Xz.out.below hA)
  replace Y := hide (Yz.out.below hA)
  replace HI := hide (HIz.out.below hA)
  replace HO := hide (own_below HOz.out hA)
  replace t0 := keepc hA t0z
  clear e6
  rw [HE6.out]
  obtain ⟨T0, T1, T2, T3⟩ := T.out.all
  obtain ⟨T4, T5, T6, T7⟩ := T.out.free
  obtain ⟨Y0, Y1, Y2, Y3⟩ := Y.out.all
  obtain ⟨Y4, Y5, Y6, Y7⟩ := Y.out.free
  go_wp2
  go_region_with (fail)
  all_goals
    go_wp2
    refine bodyPost_ret (v := .tuple #[lv a b 0 (.slice A' r.length c'), .int .i64 c]) (by simp [results, Try.results11, go_sem, Y0, Y1, Y2, Y3]) rfl ⟨.slice A' r.length c', by rw [HC1.out], ?_, ?_⟩
    · rw [HR.out]
      refine own_base (base := w3.heap.size) ?_ (by omega)
      repeat (first | (with_reducible exact HO.out) | (with_reducible refine ownsRow_setCell_below ?_ (by simp; omega) _) | (with_reducible refine row_drew ?_))
    · repeat (first | (with_reducible exact hB) | (with_reducible refine bset ?_ _ _ (by omega) _) | (with_reducible refine Below.drew ?_))
theorem lPut_at' (l : List Int) {j : Nat} (hj : j < l.length) (d : Int) : lPut l ((j : Int) + 1) d = l.set j (s64 (l[j] + d)) := by
  unfold lPut
  rw [show ((j : Int) + 1 - 1).toNat = j by omega, List.getD_eq_getElem?_getD, List.getElem?_eq_getElem hj]; rfl
theorem Take_any (a b c : Int) (v : Value) (l : List Int) (who want : Int) (w : World) (h : Ints w v l) (hbig : l.length * 8 ≤ 140737488351232) (R : Lg) (n : Int) (hR : lTake ⟨a, b, c, l⟩ who want = R) (hn : lTook ⟨a, b, c, l⟩ who want = n) :
    Calls Try.prog 11 #[lv a b c v, .int .i64 who, .int .i64 want] w fun e w' => ∃ v', e = .returned (.tuple #[lv R.scanned R.spent R.pool v', .int .i64 n]) ∧ OwnB w.heap.size w' v' R.bal ∧ Below w.heap.size w w' := by
  subst hR hn
  have off : lTakes ⟨a, b, c, l⟩ who want = false → lTake ⟨a, b, c, l⟩ who want = ⟨a, b, c, l⟩ ∧ lTook ⟨a, b, c, l⟩ who want = 0 := fun h => by unfold lTake lTook; rw [h]; exact ⟨rfl, rfl⟩
  cases ht : lThere ⟨a, b, c, l⟩ who
  · obtain ⟨e1, e2⟩ := off (by unfold lTakes; rw [ht]; rfl)
    rw [e1, e2]
    exact Take_off0 a b c v l who want ht w h hbig
  · by_cases hw : 0 < want
    · by_cases hc : 0 < c
      · have hl : lTakes ⟨a, b, c, l⟩ who want = true := by unfold lTakes; rw [ht, decide_eq_true hw, show decide (0 < (Lg.mk a b c l).pool) = true from decide_eq_true hc]; rfl
        obtain ⟨j, rfl, -, hj⟩ := there_at ht
        simp only at hj
        have e1 : lTake ⟨a, b, c, l⟩ ((j : Int) + 1) want = ⟨a, b, s64 (c - min want c), l.set j (s64 (l[j] + min want c))⟩ := by unfold lTake; rw [hl, if_pos rfl, lPut_at' l hj]
        have e2 : lTook ⟨a, b, c, l⟩ ((j : Int) + 1) want = min want c := by unfold lTook; rw [hl]; rfl
        rw [e1, e2]
        by_cases hle : want ≤ c
        · rw [Int.min_eq_left hle]
          exact Take_want a b c v l j hj want hw hc hle w h hbig
        · rw [Int.min_eq_right (by omega)]
          exact Take_pool a b c v l j hj want hw hc (by omega) w h hbig
      · obtain ⟨e1, e2⟩ := off (by unfold lTakes; rw [ht, decide_eq_true hw, show decide (0 < (Lg.mk a b c l).pool) = false from decide_eq_false hc]; rfl)
        rw [e1, e2]
        exact Take_off2 a b c v l who want ht hw (by omega) w h hbig
    · obtain ⟨e1, e2⟩ := off (by unfold lTakes; rw [ht, decide_eq_false hw]; rfl)
      rw [e1, e2]
      exact Take_off1 a b c v l who want ht (by omega) w h hbig
end Go.Proofs.Ytgbkphgclpgppaa
