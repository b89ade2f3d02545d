/- Layer ledger: copied, turned. -/
import Derived.Test.YtgbkphgclpgppaaLedgerMore
import Derived.StillTailTactics
namespace Go.Proofs.Ytgbkphgclpgppaa
open Go.RowKit

theorem own_drew {base : Nat} {w : World} {v : Value} {l : List Int} (h : OwnB base w v l) : OwnB base w.drew v l := h
theorem below_drew {n : Nat} {a w : World} (h : Below n a w) : Below n a w.drew := ⟨h.os, h.tape, h.output, h.size, h.block⟩
set_option maxRecDepth 100000 in
set_option maxHeartbeats 1000000 in
theorem copied_any (a b c : Int) (v : Value) (l : List Int) (w : World) (h : Ints w v l) (hbig : l.length * 8 ≤ 140737488351232) :
    Calls Try.prog 29 #[lv a b c v] w fun e w' => ∃ v', e = .returned (lv a b c v') ∧ OwnB (w.heap.size + 2) w' v' l ∧ Below w.heap.size w w' := by
  have hB : Below w.heap.size w w := Below.refl _ _
  have HI := hide h
  obtain ⟨A, n, rfl, hn1, hn2, -⟩ := id h
  unfold maxLen at hn2
  clear h
  obtain ⟨w1, e1, hb1, hs1, X, Y⟩ := lbox2 w a b c (.slice A l.length n) 24 0 0 0 (.slice none 0 0) 24
  have HE1 := hide e1
  have X := hide X
  have Y := hide Y
  clear e1
  replace HI := hide (HI.out.below hb1)
  replace hB := bcall hB hb1
  clear hb1
  obtain ⟨X0, X1, X2, X3⟩ := X.out.all
  obtain ⟨X4, X5, X6, X7⟩ := X.out.free
  obtain ⟨Y0, Y1, Y2, Y3⟩ := Y.out.all
  obtain ⟨Y4, Y5, Y6, Y7⟩ := Y.out.free
  go_enter Try.func29, Try.ntmps29
  go_wp2_with fail
  rw [HE1.out]
  clear X0 X1 X2 X3 X4 X5 X6 X7 Y0 Y1 Y2 Y3 Y4 Y5 Y6 Y7
  (with_reducible refine (Clone_any _ l _ HI.out hbig).mono ?_)
  rintro e w2 ⟨v', rfl, hown, hb2⟩
  replace X := hide (X.out.below hb2)
  replace Y := hide (Y.out.below hb2)
  replace HI := hide (HI.out.below hb2)
  replace hB := bcall hB hb2
  have hs2 := hb2.size
  clear hb2
  obtain ⟨A', c', rfl, q1, q2⟩ := own_form hown
  have HO := hide hown
  clear hown
  obtain ⟨X0, X1, X2, X3⟩ := X.out.all
  obtain ⟨X4, X5, X6, X7⟩ := X.out.free
  obtain ⟨Y0, Y1, Y2, Y3⟩ := Y.out.all
  obtain ⟨Y4, Y5, Y6, Y7⟩ := Y.out.free
  go_wp2
  refine bodyPost_ret (v := lv a b c (.slice A' l.length c')) (by simp [results, Try.results29, go_sem, Y0, Y1, Y2, Y3]) rfl ⟨_, rfl, ?_, ?_⟩
  · refine own_base (base := w1.heap.size) ?_ (by omega)
    repeat (first | (with_reducible exact HO.out) | (with_reducible refine ownsRow_setCell_below ?_ (by simp; omega) _) | (with_reducible refine row_drew ?_))
  · repeat (first | (with_reducible exact hB) | (with_reducible refine bset ?_ _ _ (by omega) _) | (with_reducible refine Below.drew ?_))
set_option maxRecDepth 100000 in
set_option maxHeartbeats 2000000 in
theorem turned_yes (fo : FuncId) (caps : Array Value) (d : Int) (a b c : Int) (v : Value) (l : List Int) (j : Nat) (hj : j < l.length) (w : World) (h : Ints w v l) (hbig : l.length * 8 ≤ 140737488351232)
    (hcf : ∀ (xs : Array Value) (wx : World), (callFunc fo xs).run Try.prog wx = .ok (.enter fo xs) wx)
    (hop : ∀ (x : Int) (w' : World), Below w.heap.size w w' → Calls Try.prog fo (#[.int .i64 x] ++ caps) w' fun e w'' => e = .returned (.int .i64 (s64 (x + d))) ∧ w'' = w') :
    Calls Try.prog 30 #[lv a b c v, .int .i64 ((j : Int) + 1), .func (.func fo) #[] caps] w fun e w' => ∃ v', e = .returned (lv a b c v') ∧ OwnB w.heap.size w' v' (l.set j (s64 (l[j] + d))) ∧ Below w.heap.size w w' := by
  have hB : Below w.heap.size w w := Below.refl _ _
  have HI := hide h
  obtain ⟨A, n, rfl, hn1, hn2, -⟩ := id h
  unfold maxLen at hn2
  clear h
  have HOP := hide hop
  have HT := hide (show lThere ⟨a, b, c, l⟩ ((j : Int) + 1) = true from there_iff.2 ⟨by omega, by show _ ≤ (l.length : Int); omega⟩)
  clear hop
  obtain ⟨w1, e1, hb1, hs1, X, Y⟩ := lbox2 w a b c (.slice A l.length n) 24 0 0 0 (.slice none 0 0) 24
  have HE1 := hide e1
  have X := hide X
  have Y := hide Y
  clear e1
  replace HI := hide (HI.out.below hb1)
  replace hB := bcall hB hb1
  clear hb1
  obtain ⟨X0, X1, X2, X3⟩ := X.out.all
  obtain ⟨X4, X5, X6, X7⟩ := X.out.free
  obtain ⟨Y0, Y1, Y2, Y3⟩ := Y.out.all
  obtain ⟨Y4, Y5, Y6, Y7⟩ := Y.out.free
  go_enter Try.func30, Try.ntmps30
  go_wp2_with fail
  rw [HE1.out]
  clear X0 X1 X2 X3 X4 X5 X6 X7 Y0 Y1 Y2 Y3 Y4 Y5 Y6 Y7
  (with_reducible refine (copied_any a b c _ l _ HI.out hbig).mono ?_)
  rintro e w2 ⟨v', rfl, hown, hb2⟩
  replace X := hide (X.out.below hb2)
  replace Y := hide (Y.out.below hb2)
  replace HI := hide (HI.out.below hb2)
  replace hB := bcall hB hb2
  have hs2 := hb2.size
  clear hb2
  obtain ⟨g, c', rfl, q1, q2, q3, q4, d1, d2⟩ := own_at hown hj
  have HO := hide hown
  clear hown
  have Xa0 := fun ob => (X.out.below (bal w2 ob)).all.1
  have Xa1 := fun ob => (X.out.below (bal w2 ob)).all.2.1
  have Xa2 := fun ob => (X.out.below (bal w2 ob)).all.2.2.1
  have Xa3 := fun ob => (X.out.below (bal w2 ob)).all.2.2.2
  obtain ⟨w3, e3, hb3, hs3, T⟩ := lbox w2 (a) (b) (c) (.slice (some ⟨g, 0, none⟩) l.length c') 24
  have HE3 := hide e3
  have T := hide T
  clear e3
  replace X := hide (X.out.below hb3)
  replace Y := hide (Y.out.below hb3)
  replace HI := hide (HI.out.below hb3)
  replace HO := hide (own_below HO.out hb3)
  replace d2 := keepf hb3 d1 d2
  replace d1 := keepc hb3 d1
  replace hB := bcall hB hb3
  clear hb3
  go_wp2_with fail
  rw [HE3.out]
  clear Xa0 Xa1 Xa2 Xa3
  (with_reducible refine (hasMutator_any a b c _ l ((j : Int) + 1) _ HI.out).mono ?_)
  rintro e w4 ⟨rfl, hb4⟩
  replace X := hide (X.out.below hb4)
  replace Y := hide (Y.out.below hb4)
  replace T := hide (T.out.below hb4)
  replace HI := hide (HI.out.below hb4)
  replace HO := hide (own_below HO.out hb4)
  replace d2 := keepf hb4 d1 d2
  replace d1 := keepc hb4 d1
  replace hB := bcall hB hb4
  have hs4 := hb4.size
  clear hb4
  rw [HT.out]
  obtain ⟨X0, X1, X2, X3⟩ := X.out.all
  obtain ⟨X4, X5, X6, X7⟩ := X.out.free
  obtain ⟨Y0, Y1, Y2, Y3⟩ := Y.out.all
  obtain ⟨Y4, Y5, Y6, Y7⟩ := Y.out.free
  obtain ⟨T0, T1, T2, T3⟩ := T.out.all
  obtain ⟨T4, T5, T6, T7⟩ := T.out.free
  obtain ⟨g0, off, rfl, hg0, d0⟩ := ints_at HI.out hj
  have n1 : g ≠ w2.heap.size := by omega
  have n2 : w2.heap.size ≠ g := by omega
  have n3 : g ≠ w.heap.size + 1 := by omega
  have n4 : w.heap.size + 1 ≠ g := by omega
  have HP := hide (HOP.out l[j] w4.drew (below_drew hB))
  have HS := hide (own_store HO.out j (s64 (l[j] + d)))
  obtain ⟨y, hy⟩ : ∃ y, s64 (l[j] + d) = y := ⟨_, rfl⟩
  rw [hy] at HP HS
  have HY := hide hy
  obtain ⟨x, hx⟩ : ∃ x, l[j] = x := ⟨_, rfl⟩
  rw [hx] at HP d0 d1
  clear hy hx
  have jw : IntKind.i64.wrap (j : Int) = (j : Int) := by rw [wrap_s]; exact s64_small (by omega) (by omega)
  have j1 : (j : Int) < (l.length : Int) := by omega
  go_wp2
  go_still_tail 13, (by kernel_rfl)
  still_call HP.out
  repeat still_step
  refine wpStill_nil ?_
  change wpList _ _ _ _ _ w4.drew
  go_wp2
  refine bodyPost_ret (v := lv a b c (.slice (some ⟨g, 0, none⟩) l.length c')) (by simp [results, Try.results30, go_sem, Y0, Y1, Y2, Y3]) rfl ⟨_, rfl, ?_, ?_⟩
  · show World.ownsRow _ _ _ _ _ _ _
    rw [List.length_set, HY.out]
    refine own_base (base := w1.heap.size + 2) ?_ (by omega)
    repeat (first | (with_reducible exact HS.out) | (with_reducible refine ownsRow_setCell_below ?_ (by simp; omega) _) | (with_reducible refine row_drew ?_))
  · repeat (first | (with_reducible exact hB) | (with_reducible refine bset ?_ _ _ (by omega) _) | (with_reducible refine Below.drew ?_))
set_option maxRecDepth 100000 in
set_option maxHeartbeats 2000000 in
theorem turned_no (f : Value) (a b c : Int) (v : Value) (l : List Int) (who : Int) (ht : lThere ⟨a, b, c, l⟩ who = false) (w : World) (h : Ints w v l) (hbig : l.length * 8 ≤ 140737488351232) :
    Calls Try.prog 30 #[lv a b c v, .int .i64 who, f] w fun e w' => ∃ v', e = .returned (lv a b c v') ∧ OwnB w.heap.size w' v' l ∧ Below w.heap.size w w' := by
  have hB : Below w.heap.size w w := Below.refl _ _
  have HI := hide h
  obtain ⟨A, n, rfl, hn1, hn2, -⟩ := id h
  unfold maxLen at hn2
  clear h
  have HT := hide ht
  clear ht
  obtain ⟨w1, e1, hb1, hs1, X, Y⟩ := lbox2 w a b c (.slice A l.length n) 24 0 0 0 (.slice none 0 0) 24
  have HE1 := hide e1
  have X := hide X
  have Y := hide Y
  clear e1
  replace HI := hide (HI.out.below hb1)
  replace hB := bcall hB hb1
  clear hb1
  obtain ⟨X0, X1, X2, X3⟩ := X.out.all
  obtain ⟨X4, X5, X6, X7⟩ := X.out.free
  obtain ⟨Y0, Y1, Y2, Y3⟩ := Y.out.all
  obtain ⟨Y4, Y5, Y6, Y7⟩ := Y.out.free
  go_enter Try.func30, Try.ntmps30
  go_wp2_with fail
  rw [HE1.out]
  clear X0 X1 X2 X3 X4 X5 X6 X7 Y0 Y1 Y2 Y3 Y4 Y5 Y6 Y7
  (with_reducible refine (copied_any a b c _ l _ HI.out hbig).mono ?_)
  rintro e w2 ⟨v', rfl, hown, hb2⟩
  replace X := hide (X.out.below hb2)
  replace Y := hide (Y.out.below hb2)
  replace HI := hide (HI.out.below hb2)
  replace hB := bcall hB hb2
  have hs2 := hb2.size
  clear hb2
  obtain ⟨A', c', rfl, q1, q2⟩ := own_form hown
  have HO := hide hown
  clear hown
  have Xa0 := fun ob => (X.out.below (bal w2 ob)).all.1
  have Xa1 := fun ob => (X.out.below (bal w2 ob)).all.2.1
  have Xa2 := fun ob => (X.out.below (bal w2 ob)).all.2.2.1
  have Xa3 := fun ob => (X.out.below (bal w2 ob)).all.2.2.2
  obtain ⟨w3, e3, hb3, hs3, T⟩ := lbox w2 (a) (b) (c) (.slice A' l.length c') 24
  have HE3 := hide e3
  have T := hide T
  clear e3
  replace X := hide (X.out.below hb3)
  replace Y := hide (Y.out.below hb3)
  replace HI := hide (HI.out.below hb3)
  replace HO := hide (own_below HO.out hb3)
  replace hB := bcall hB hb3
  clear hb3
  go_wp2_with fail
  rw [HE3.out]
  clear Xa0 Xa1 Xa2 Xa3
  (with_reducible refine (hasMutator_any a b c _ l who _ HI.out).mono ?_)
  rintro e w4 ⟨rfl, hb4⟩
  replace X := hide (X.out.below hb4)
  replace Y := hide (Y.out.below hb4)
  replace T := hide (T.out.below hb4)
  replace HI := hide (HI.out.below hb4)
  replace HO := hide (own_below HO.out hb4)
  replace hB := bcall hB hb4
  have hs4 := hb4.size
  clear hb4
  rw [HT.out]
  obtain ⟨X0, X1, X2, X3⟩ := X.out.all
  obtain ⟨X4, X5, X6, X7⟩ := X.out.free
  obtain ⟨Y0, Y1, Y2, Y3⟩ := Y.out.all
  obtain ⟨Y4, Y5, Y6, Y7⟩ := Y.out.free
  obtain ⟨T0, T1, T2, T3⟩ := T.out.all
  obtain ⟨T4, T5, T6, T7⟩ := T.out.free
  go_wp2
  refine bodyPost_ret (v := lv a b c (.slice A' l.length c')) (by simp [results, Try.results30, go_sem, Y0, Y1, Y2, Y3]) rfl ⟨_, rfl, ?_, ?_⟩
  · refine own_base (base := w1.heap.size + 2) ?_ (by omega)
    repeat (first | (with_reducible exact HO.out) | (with_reducible refine ownsRow_setCell_below ?_ (by simp; omega) _) | (with_reducible refine row_drew ?_))
  · repeat (first | (with_reducible exact hB) | (with_reducible refine bset ?_ _ _ (by omega) _) | (with_reducible refine Below.drew ?_))
end Go.Proofs.Ytgbkphgclpgppaa
