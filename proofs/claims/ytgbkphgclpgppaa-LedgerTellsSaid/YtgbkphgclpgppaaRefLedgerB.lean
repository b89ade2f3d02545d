/- Layer ledger: the document's deeds. -/
import Derived.Test.YtgbkphgclpgppaaRefLedgerA
import Derived.StillTailTactics
namespace Go.Proofs.Ytgbkphgclpgppaa
open Go.RowKit

theorem rbelow_drew {n : Nat} {a w : World} (h : Below n a w) : Below n a w.drew := ⟨h.os, h.tape, h.output, h.size, h.block⟩
theorem rbx_other {t : TypeId} {w : World} {B g o : Nat} {a b c : Int} {v : Value} (h : Bx t w B a b c v) (x : Value) (hne : B ≠ g) : Bx t (w.setCell ⟨g, o, none⟩ x) B a b c v :=
  ⟨(Below.heap_setCell w ⟨g, o, none⟩ x B hne).trans h.blk⟩
theorem rbx_drew {t : TypeId} {w : World} {B : Nat} {a b c : Int} {v : Value} (h : Bx t w B a b c v) : Bx t w.drew B a b c v := ⟨h.blk⟩
set_option maxRecDepth 100000 in
set_option maxHeartbeats 2000000 in
theorem more_any (a b c : Int) (v : Value) (l : List Int) (j : Nat) (hj : j < l.length) (d : Int) (w : World) (h : Ints w v l) (hbig : l.length * 8 ≤ 140737488351232) :
    Calls Try.prog 33 #[lv a b c v, .int .i64 ((j : Int) + 1), .int .i64 d] w fun e w' => ∃ v', e = .returned (lv a b c v') ∧ OwnB w.heap.size w' v' (l.set j (s64 (l[j] + d))) ∧ Below w.heap.size w w' := by
  have hB : Below w.heap.size w w := Below.refl _ _
  have HI0 := hide h
  have HI := hide h
  obtain ⟨A, n, rfl, hn1, hn2, -⟩ := id h
  unfold maxLen at hn2
  clear h
  obtain ⟨w1, e1, hb1, hs1, X, Y⟩ := lbox2 w a b c (.slice A l.length n) 26 0 0 0 (.slice none 0 0) 26
  have HE1 := hide e1
  have X := hide X
  have Y := hide Y
  clear e1
  replace HI := hide (HI.out.below hb1)
  replace hB := bcall hB hb1
  clear hb1
  obtain ⟨i0, hi, hz0, hz1, hz2⟩ := info_parts infoI
  obtain ⟨X0, X1, X2, X3⟩ := X.out.all
  obtain ⟨X4, X5, X6, X7⟩ := X.out.free
  obtain ⟨Y0, Y1, Y2, Y3⟩ := Y.out.all
  obtain ⟨Y4, Y5, Y6, Y7⟩ := Y.out.free
  go_enter Try.func33, Try.ntmps33
  go_upto_region 1 with (fail)
  rw [HE1.out]
  have HS1 := hide hs1
  clear hs1
  go_wp2_with (at_builtin; refine wpList_append_sl _ rfl _ _ 22 rfl w1.heap.size 2 i0 (.int .i64 0) 1 8 Try.underlying22 hi hz0 hz1 hz2 rfl (by decide) _ _ _ rfl (World.ownsRow_nil _ _ _ _) _ l rfl HI.out ic_len (fun _ u hu => by simp [ic] at hu; subst hu; rfl) (by unfold maxLen; omega) (by omega) (by simp) ?_)
  intro v2 w2 hown hb2
  (try rw [Nat.zero_add, List.nil_append] at hown)
  have hs2 := hb2.size
  clear X0 X1 X2 X3 X4 X5 X6 X7 Y0 Y1 Y2 Y3 Y4 Y5 Y6 Y7
  replace X := hide (X.out.below hb2)
  replace Y := hide (Y.out.below hb2)
  replace hB := bcall hB hb2
  clear hb2
  have hs1 := HS1.out
  obtain ⟨g, c2, rfl, q1, q2, q3, q4, -, -⟩ := own_at (show OwnB w1.heap.size w2 v2 l from hown) hj
  have HO := hide hown
  clear hown
  obtain ⟨X0, X1, X2, X3⟩ := X.out.all
  obtain ⟨X4, X5, X6, X7⟩ := X.out.free
  obtain ⟨Y0, Y1, Y2, Y3⟩ := Y.out.all
  obtain ⟨Y4, Y5, Y6, Y7⟩ := Y.out.free
  go_upto_region 2 with (fail)
  clear X0 X1 X2 X3 X4 X5 X6 X7 Y0 Y1 Y2 Y3 Y4 Y5 Y6 Y7
  obtain ⟨w3, e3⟩ : ∃ w' : World, w2.setCell ⟨w.heap.size, 3, none⟩ (.slice (some ⟨g, 0, none⟩) l.length c2) = w' := ⟨_, rfl⟩
  rw [e3]
  have X := X.out.put3 (.slice (some ⟨g, 0, none⟩) l.length c2)
  have Y := rbx_other (g := w.heap.size) (o := 3) Y.out (.slice (some ⟨g, 0, none⟩) l.length c2) (by omega)
  rw [e3] at X Y
  have X := hide X
  have Y := hide Y
  have hs3 : w3.heap.size = w2.heap.size := by rw [← e3]; exact set_size _ _ _
  replace hB := bset hB w.heap.size 3 (Nat.le_refl _) (.slice (some ⟨g, 0, none⟩) l.length c2)
  rw [e3] at hB
  have HO := hide (show w3.ownsRow w1.heap.size 2 1 (.slice (some ⟨g, 0, none⟩) l.length c2) l.length (l.flatMap ic) by rw [← e3]; exact ownsRow_setCell_below HO.out (by simp; omega) _)
  clear e3
  obtain ⟨X0, X1, X2, X3⟩ := X.out.all
  obtain ⟨X4, X5, X6, X7⟩ := X.out.free
  obtain ⟨Y0, Y1, Y2, Y3⟩ := Y.out.all
  obtain ⟨Y4, Y5, Y6, Y7⟩ := Y.out.free
  have d1 := HO.out.cellAt j (by omega)
  have d2 := HO.out.frozenAt j
  rw [ic_get l j hj] at d1
  have n1 : w.heap.size ≠ g := by omega
  have n2 : w.heap.size + 1 ≠ g := by omega
  have HS := hide (own_store HO.out j (s64 (l[j] + d)))
  have e1 := wrap_s (l[j] + d)
  obtain ⟨y, hy⟩ : ∃ y, s64 (l[j] + d) = y := ⟨_, rfl⟩
  rw [hy] at e1 HS
  have HY := hide hy
  clear hy
  have jw : IntKind.i64.wrap (j : Int) = (j : Int) := by rw [wrap_s]; exact s64_small (by omega) (by omega)
  have j1 : (j : Int) < (l.length : Int) := by omega
  go_wp2
  go_still_tail 13, (by kernel_rfl)
  change wpList _ _ _ _ _ w3.drew
  go_upto_region 3 with (fail)
  obtain ⟨w4, e4⟩ : ∃ w4, (w3.setCell ⟨g, j, none⟩ (.int .i64 y)).drew = w4 := ⟨_, rfl⟩
  rw [e4]
  have X := hide (show Bx 26 w4 w.heap.size a b c (.slice (some ⟨g, 0, none⟩) l.length c2) by rw [← e4]; exact rbx_drew (rbx_other X.out _ n1))
  have Y := hide (show Bx 26 w4 (w.heap.size + 1) 0 0 0 (.slice none 0 0) by rw [← e4]; exact rbx_drew (rbx_other Y.out _ n2))
  have HS := hide (show w4.ownsRow w1.heap.size 2 1 (.slice (some ⟨g, 0, none⟩) l.length c2) l.length ((l.set j y).flatMap ic) by rw [← e4]; exact row_drew HS.out)
  replace hB := rbelow_drew (bset hB g j (by omega) (.int .i64 y))
  rw [e4] at hB
  clear X0 X1 X2 X3 X4 X5 X6 X7 Y0 Y1 Y2 Y3 Y4 Y5 Y6 Y7
  clear e4 d1 d2
  obtain ⟨X0, X1, X2, X3⟩ := X.out.all
  obtain ⟨X4, X5, X6, X7⟩ := X.out.free
  obtain ⟨Y0, Y1, Y2, Y3⟩ := Y.out.all
  obtain ⟨Y4, Y5, Y6, Y7⟩ := Y.out.free
  go_wp2
  refine bodyPost_ret (v := lv a b c (.slice (some ⟨g, 0, none⟩) l.length c2)) (by simp [results, Try.results33, go_sem, Y0, Y1, Y2, Y3]) rfl ⟨.slice (some ⟨g, 0, none⟩) l.length c2, rfl, ?_, ?_⟩
  · show World.ownsRow _ _ _ _ _ _ _
    rw [List.length_set, HY.out]
    refine own_base (base := w1.heap.size) ?_ (by omega)
    repeat (first | (with_reducible exact HS.out) | (with_reducible refine ownsRow_setCell_below ?_ (by simp; omega) _) | (with_reducible refine row_drew ?_))
  · repeat (first | (with_reducible exact hB) | (with_reducible refine bset ?_ _ _ (by omega) _) | (with_reducible refine Below.drew ?_))
set_option maxRecDepth 100000 in
set_option maxHeartbeats 2000000 in
theorem rEarn_yes (a b c : Int) (v : Value) (l : List Int) (j : Nat) (hj : j < l.length) (w : World) (h : Ints w v l) (hbig : l.length * 8 ≤ 140737488351232) :
    Calls Try.prog 17 #[lv a b c v, .int .i64 ((j : Int) + 1)] w fun e w' => ∃ v', e = .returned (lv (s64 (a + 1)) b c v') ∧ Ints w' v' (l.set j (s64 (l[j] + 1))) ∧ Below w.heap.size w w' := by
  have HT := hide (show lThere ⟨s64 (a + 1), b, c, l⟩ ((j : Int) + 1) = true from there_iff.2 ⟨by omega, by show _ ≤ (l.length : Int); omega⟩)
  have hB : Below w.heap.size w w := Below.refl _ _
  have HI0 := hide h
  have HI := hide h
  obtain ⟨A, n, rfl, hn1, hn2, -⟩ := id h
  unfold maxLen at hn2
  clear h
  obtain ⟨w1, e1, hb1, hs1, X, Y⟩ := lbox2 w a b c (.slice A l.length n) 26 0 0 0 (.slice none 0 0) 26
  have HE1 := hide e1
  have X := hide X
  have Y := hide Y
  clear e1
  replace HI := hide (HI.out.below hb1)
  replace hB := bcall hB hb1
  clear hb1
  have e1 := wrap_s (a + 1)
  obtain ⟨a1, ha1⟩ : ∃ y, s64 (a + 1) = y := ⟨_, rfl⟩
  rw [ha1] at e1 HT
  have HA1 := hide ha1
  clear ha1
  go_enter Try.func17, Try.ntmps17
  go_upto_region 1 with (fail)
  rw [HE1.out]
  obtain ⟨X0, X1, X2, X3⟩ := X.out.all
  obtain ⟨X4, X5, X6, X7⟩ := X.out.free
  obtain ⟨Y0, Y1, Y2, Y3⟩ := Y.out.all
  obtain ⟨Y4, Y5, Y6, Y7⟩ := Y.out.free
  go_upto_region 2 with (fail)
  clear X0 X1 X2 X3 X4 X5 X6 X7 Y0 Y1 Y2 Y3 Y4 Y5 Y6 Y7
  obtain ⟨w2, e2⟩ : ∃ w' : World, w1.setCell ⟨w.heap.size, 0, none⟩ (.int .i64 a1) = w' := ⟨_, rfl⟩
  rw [e2]
  have X := X.out.put0 (a1)
  have Y := rbx_other (g := w.heap.size) (o := 0) Y.out (.int .i64 a1) (by omega)
  rw [e2] at X Y
  have X := hide X
  have Y := hide Y
  have hs2 : w2.heap.size = w1.heap.size := by rw [← e2]; exact set_size _ _ _
  replace hB := bset hB w.heap.size 0 (Nat.le_refl _) (.int .i64 a1)
  rw [e2] at hB
  replace HI := hide (HI0.out.below hB)
  clear e2
  obtain ⟨X0, X1, X2, X3⟩ := X.out.all
  obtain ⟨X4, X5, X6, X7⟩ := X.out.free
  obtain ⟨Y0, Y1, Y2, Y3⟩ := Y.out.all
  obtain ⟨Y4, Y5, Y6, Y7⟩ := Y.out.free
  go_wp2_with fail
  clear X0 X1 X2 X3 X4 X5 X6 X7 Y0 Y1 Y2 Y3 Y4 Y5 Y6 Y7
  (with_reducible refine (there_any a1 b c _ l ((j : Int) + 1) _ HI.out).mono ?_)
  rintro e w3 ⟨rfl, hb3⟩
  replace X := hide (X.out.below hb3)
  replace Y := hide (Y.out.below hb3)
  replace HI := hide (HI.out.below hb3)
  replace hB := bcall hB hb3
  have hs3 := hb3.size
  clear hb3
  rw [HT.out]
  obtain ⟨X0, X1, X2, X3⟩ := X.out.all
  obtain ⟨X4, X5, X6, X7⟩ := X.out.free
  obtain ⟨Y0, Y1, Y2, Y3⟩ := Y.out.all
  obtain ⟨Y4, Y5, Y6, Y7⟩ := Y.out.free
  go_wp2_with fail
  clear X0 X1 X2 X3 X4 X5 X6 X7 Y0 Y1 Y2 Y3 Y4 Y5 Y6 Y7
  (with_reducible refine (more_any a1 b c _ l j hj 1 _ HI.out hbig).mono ?_)
  rintro e w4 ⟨v', rfl, hown, hb4⟩
  replace X := hide (X.out.below hb4)
  replace Y := hide (Y.out.below hb4)
  replace HI := hide (HI.out.below hb4)
  replace hB := bcall hB hb4
  have hs4 := hb4.size
  clear hb4
  obtain ⟨A', c', rfl, q1, q2⟩ := own_form hown
  unfold maxLen at q2
  have HO := hide hown
  clear hown
  obtain ⟨X0, X1, X2, X3⟩ := X.out.all
  obtain ⟨X4, X5, X6, X7⟩ := X.out.free
  obtain ⟨Y0, Y1, Y2, Y3⟩ := Y.out.all
  obtain ⟨Y4, Y5, Y6, Y7⟩ := Y.out.free
  go_wp2
  refine bodyPost_ret (v := lv a1 b c (.slice A' (l.set j (s64 (l[j] + 1))).length c')) (by simp [results, Try.results17, go_sem, Y0, Y1, Y2, Y3]) rfl ⟨.slice A' (l.set j (s64 (l[j] + 1))).length c', by rw [HA1.out], ?_, ?_⟩
  · refine OwnB.ints (base := w3.heap.size) ?_
    repeat (first | (with_reducible exact HO.out) | (with_reducible refine ownsRow_setCell_below ?_ (by simp; omega) _) | (with_reducible refine row_drew ?_))
  · repeat (first | (with_reducible exact hB) | (with_reducible refine bset ?_ _ _ (by omega) _) | (with_reducible refine Below.drew ?_))
set_option maxRecDepth 100000 in
set_option maxHeartbeats 2000000 in
theorem rEarn_no (a b c : Int) (v : Value) (l : List Int) (who : Int) (ht : lThere ⟨a, b, c, l⟩ who = false) (w : World) (h : Ints w v l) :
    Calls Try.prog 17 #[lv a b c v, .int .i64 who] w fun e w' => ∃ v', e = .returned (lv (s64 (a + 1)) b (s64 (c + 1)) v') ∧ Ints w' v' l ∧ Below w.heap.size w w' := by
  have HT := hide (show lThere ⟨s64 (a + 1), b, c, l⟩ who = false from ht)
  clear ht
  have hB : Below w.heap.size w w := Below.refl _ _
  have HI0 := hide h
  have HI := hide h
  obtain ⟨A, n, rfl, hn1, hn2, -⟩ := id h
  unfold maxLen at hn2
  clear h
  obtain ⟨w1, e1, hb1, hs1, X, Y⟩ := lbox2 w a b c (.slice A l.length n) 26 0 0 0 (.slice none 0 0) 26
  have HE1 := hide e1
  have X := hide X
  have Y := hide Y
  clear e1
  replace HI := hide (HI.out.below hb1)
  replace hB := bcall hB hb1
  clear hb1
  have e1 := wrap_s (a + 1)
  obtain ⟨a1, ha1⟩ : ∃ y, s64 (a + 1) = y := ⟨_, rfl⟩
  rw [ha1] at e1 HT
  have HA1 := hide ha1
  clear ha1
  have e2 := wrap_s (c + 1)
  obtain ⟨c1, hc1⟩ : ∃ y, s64 (c + 1) = y := ⟨_, rfl⟩
  rw [hc1] at e2
  have HC1 := hide hc1
  clear hc1
  go_enter Try.func17, Try.ntmps17
  go_upto_region 1 with (fail)
  rw [HE1.out]
  obtain ⟨X0, X1, X2, X3⟩ := X.out.all
  obtain ⟨X4, X5, X6, X7⟩ := X.out.free
  obtain ⟨Y0, Y1, Y2, Y3⟩ := Y.out.all
  obtain ⟨Y4, Y5, Y6, Y7⟩ := Y.out.free
  go_upto_region 2 with (fail)
  clear X0 X1 X2 X3 X4 X5 X6 X7 Y0 Y1 Y2 Y3 Y4 Y5 Y6 Y7
  obtain ⟨w2, e2⟩ : ∃ w' : World, w1.setCell ⟨w.heap.size, 0, none⟩ (.int .i64 a1) = w' := ⟨_, rfl⟩
  rw [e2]
  have X := X.out.put0 (a1)
  have Y := rbx_other (g := w.heap.size) (o := 0) Y.out (.int .i64 a1) (by omega)
  rw [e2] at X Y
  have X := hide X
  have Y := hide Y
  have hs2 : w2.heap.size = w1.heap.size := by rw [← e2]; exact set_size _ _ _
  replace hB := bset hB w.heap.size 0 (Nat.le_refl _) (.int .i64 a1)
  rw [e2] at hB
  replace HI := hide (HI0.out.below hB)
  clear e2
  obtain ⟨X0, X1, X2, X3⟩ := X.out.all
  obtain ⟨X4, X5, X6, X7⟩ := X.out.free
  obtain ⟨Y0, Y1, Y2, Y3⟩ := Y.out.all
  obtain ⟨Y4, Y5, Y6, Y7⟩ := Y.out.free
  go_wp2_with fail
  clear X0 X1 X2 X3 X4 X5 X6 X7 Y0 Y1 Y2 Y3 Y4 Y5 Y6 Y7
  (with_reducible refine (there_any a1 b c _ l who _ HI.out).mono ?_)
  rintro e w3 ⟨rfl, hb3⟩
  replace X := hide (X.out.below hb3)
  replace Y := hide (Y.out.below hb3)
  replace HI := hide (HI.out.below hb3)
  replace hB := bcall hB hb3
  have hs3 := hb3.size
  clear hb3
  rw [HT.out]
  obtain ⟨X0, X1, X2, X3⟩ := X.out.all
  obtain ⟨X4, X5, X6, X7⟩ := X.out.free
  obtain ⟨Y0, Y1, Y2, Y3⟩ := Y.out.all
  obtain ⟨Y4, Y5, Y6, Y7⟩ := Y.out.free
  go_upto_region 5 with (fail)
  clear X0 X1 X2 X3 X4 X5 X6 X7 Y0 Y1 Y2 Y3 Y4 Y5 Y6 Y7
  obtain ⟨w4, e4⟩ : ∃ w' : World, w3.setCell ⟨w.heap.size, 2, none⟩ (.int .i64 c1) = w' := ⟨_, rfl⟩
  rw [e4]
  have X := X.out.put2 (c1)
  have Y := rbx_other (g := w.heap.size) (o := 2) Y.out (.int .i64 c1) (by omega)
  rw [e4] at X Y
  have X := hide X
  have Y := hide Y
  have hs4 : w4.heap.size = w3.heap.size := by rw [← e4]; exact set_size _ _ _
  replace hB := bset hB w.heap.size 2 (Nat.le_refl _) (.int .i64 c1)
  rw [e4] at hB
  replace HI := hide (HI0.out.below hB)
  clear e4
  obtain ⟨X0, X1, X2, X3⟩ := X.out.all
  obtain ⟨X4, X5, X6, X7⟩ := X.out.free
  obtain ⟨Y0, Y1, Y2, Y3⟩ := Y.out.all
  obtain ⟨Y4, Y5, Y6, Y7⟩ := Y.out.free
  go_wp2
  refine bodyPost_ret (v := lv a1 b c1 (.slice A l.length n)) (by simp [results, Try.results17, go_sem, Y0, Y1, Y2, Y3]) rfl ⟨.slice A l.length n, by rw [HA1.out, HC1.out], ?_, ?_⟩
  · refine HI0.out.below ?_
    repeat (first | (with_reducible exact hB) | (with_reducible refine bset ?_ _ _ (by omega) _) | (with_reducible refine Below.drew ?_))
  · repeat (first | (with_reducible exact hB) | (with_reducible refine bset ?_ _ _ (by omega) _) | (with_reducible refine Below.drew ?_))
set_option maxRecDepth 100000 in
set_option maxHeartbeats 2000000 in
theorem rTake_off0 (a b c : Int) (v : Value) (l : List Int) (who want : Int) (ht : lThere ⟨a, b, c, l⟩ who = false) (w : World) (h : Ints w v l) :
    Calls Try.prog 12 #[lv a b c v, .int .i64 who, .int .i64 want] w fun e w' => ∃ v', e = .returned (.tuple #[lv a b c v', .int .i64 0]) ∧ Ints w' v' l ∧ Below w.heap.size w w' := by
  have HT := hide ht
  clear ht
  have hB : Below w.heap.size w w := Below.refl _ _
  have HI0 := hide h
  have HI := hide h
  obtain ⟨A, n, rfl, hn1, hn2, -⟩ := id h
  unfold maxLen at hn2
  clear h
  obtain ⟨w1, e1, hb1, hs1, X, Y⟩ := lbox2 w a b c (.slice A l.length n) 26 0 0 0 (.slice none 0 0) 26
  have HE1 := hide e1
  have X := hide X
  have Y := hide Y
  clear e1
  replace HI := hide (HI.out.below hb1)
  replace hB := bcall hB hb1
  clear hb1
  obtain ⟨X0, X1, X2, X3⟩ := X.out.all
  obtain ⟨X4, X5, X6, X7⟩ := X.out.free
  obtain ⟨Y0, Y1, Y2, Y3⟩ := Y.out.all
  obtain ⟨Y4, Y5, Y6, Y7⟩ := Y.out.free
  go_enter Try.func12, Try.ntmps12
  go_wp2_with fail
  rw [HE1.out]
  clear X0 X1 X2 X3 X4 X5 X6 X7 Y0 Y1 Y2 Y3 Y4 Y5 Y6 Y7
  (with_reducible refine (there_any a b c _ l who _ HI.out).mono ?_)
  rintro e w2 ⟨rfl, hb2⟩
  replace X := hide (X.out.below hb2)
  replace Y := hide (Y.out.below hb2)
  replace HI := hide (HI.out.below hb2)
  replace hB := bcall hB hb2
  have hs2 := hb2.size
  clear hb2
  rw [HT.out]
  obtain ⟨X0, X1, X2, X3⟩ := X.out.all
  obtain ⟨X4, X5, X6, X7⟩ := X.out.free
  obtain ⟨Y0, Y1, Y2, Y3⟩ := Y.out.all
  obtain ⟨Y4, Y5, Y6, Y7⟩ := Y.out.free
  go_wp2
  refine bodyPost_ret (v := .tuple #[lv a b c (.slice A l.length n), .int .i64 0]) (by simp [results, Try.results12, go_sem, Y0, Y1, Y2, Y3]) rfl ⟨.slice A l.length n, rfl, ?_, ?_⟩
  · refine HI0.out.below ?_
    repeat (first | (with_reducible exact hB) | (with_reducible refine bset ?_ _ _ (by omega) _) | (with_reducible refine Below.drew ?_))
  · repeat (first | (with_reducible exact hB) | (with_reducible refine bset ?_ _ _ (by omega) _) | (with_reducible refine Below.drew ?_))
set_option maxRecDepth 100000 in
set_option maxHeartbeats 2000000 in
theorem rTake_off1 (a b c : Int) (v : Value) (l : List Int) (who want : Int) (ht : lThere ⟨a, b, c, l⟩ who = true) (hw : want ≤ 0) (w : World) (h : Ints w v l) :
    Calls Try.prog 12 #[lv a b c v, .int .i64 who, .int .i64 want] w fun e w' => ∃ v', e = .returned (.tuple #[lv a b c v', .int .i64 0]) ∧ Ints w' v' l ∧ Below w.heap.size w w' := by
  have HT := hide ht
  clear ht
  have hB : Below w.heap.size w w := Below.refl _ _
  have HI0 := hide h
  have HI := hide h
  obtain ⟨A, n, rfl, hn1, hn2, -⟩ := id h
  unfold maxLen at hn2
  clear h
  obtain ⟨w1, e1, hb1, hs1, X, Y⟩ := lbox2 w a b c (.slice A l.length n) 26 0 0 0 (.slice none 0 0) 26
  have HE1 := hide e1
  have X := hide X
  have Y := hide Y
  clear e1
  replace HI := hide (HI.out.below hb1)
  replace hB := bcall hB hb1
  clear hb1
  obtain ⟨X0, X1, X2, X3⟩ := X.out.all
  obtain ⟨X4, X5, X6, X7⟩ := X.out.free
  obtain ⟨Y0, Y1, Y2, Y3⟩ := Y.out.all
  obtain ⟨Y4, Y5, Y6, Y7⟩ := Y.out.free
  go_enter Try.func12, Try.ntmps12
  go_wp2_with fail
  rw [HE1.out]
  clear X0 X1 X2 X3 X4 X5 X6 X7 Y0 Y1 Y2 Y3 Y4 Y5 Y6 Y7
  (with_reducible refine (there_any a b c _ l who _ HI.out).mono ?_)
  rintro e w2 ⟨rfl, hb2⟩
  replace X := hide (X.out.below hb2)
  replace Y := hide (Y.out.below hb2)
  replace HI := hide (HI.out.below hb2)
  replace hB := bcall hB hb2
  have hs2 := hb2.size
  clear hb2
  rw [HT.out]
  obtain ⟨X0, X1, X2, X3⟩ := X.out.all
  obtain ⟨X4, X5, X6, X7⟩ := X.out.free
  obtain ⟨Y0, Y1, Y2, Y3⟩ := Y.out.all
  obtain ⟨Y4, Y5, Y6, Y7⟩ := Y.out.free
  go_wp2
  refine bodyPost_ret (v := .tuple #[lv a b c (.slice A l.length n), .int .i64 0]) (by simp [results, Try.results12, go_sem, Y0, Y1, Y2, Y3]) rfl ⟨.slice A l.length n, rfl, ?_, ?_⟩
  · refine HI0.out.below ?_
    repeat (first | (with_reducible exact hB) | (with_reducible refine bset ?_ _ _ (by omega) _) | (with_reducible refine Below.drew ?_))
  · repeat (first | (with_reducible exact hB) | (with_reducible refine bset ?_ _ _ (by omega) _) | (with_reducible refine Below.drew ?_))
set_option maxRecDepth 100000 in
set_option maxHeartbeats 2000000 in
theorem rTake_off2 (a b c : Int) (v : Value) (l : List Int) (who want : Int) (ht : lThere ⟨a, b, c, l⟩ who = true) (hw0 : 0 < want) (hw : c ≤ 0) (w : World) (h : Ints w v l) :
    Calls Try.prog 12 #[lv a b c v, .int .i64 who, .int .i64 want] w fun e w' => ∃ v', e = .returned (.tuple #[lv a b c v', .int .i64 0]) ∧ Ints w' v' l ∧ Below w.heap.size w w' := by
  have HT := hide ht
  clear ht
  have hB : Below w.heap.size w w := Below.refl _ _
  have HI0 := hide h
  have HI := hide h
  obtain ⟨A, n, rfl, hn1, hn2, -⟩ := id h
  unfold maxLen at hn2
  clear h
  obtain ⟨w1, e1, hb1, hs1, X, Y⟩ := lbox2 w a b c (.slice A l.length n) 26 0 0 0 (.slice none 0 0) 26
  have HE1 := hide e1
  have X := hide X
  have Y := hide Y
  clear e1
  replace HI := hide (HI.out.below hb1)
  replace hB := bcall hB hb1
  clear hb1
  obtain ⟨X0, X1, X2, X3⟩ := X.out.all
  obtain ⟨X4, X5, X6, X7⟩ := X.out.free
  obtain ⟨Y0, Y1, Y2, Y3⟩ := Y.out.all
  obtain ⟨Y4, Y5, Y6, Y7⟩ := Y.out.free
  go_enter Try.func12, Try.ntmps12
  go_wp2_with fail
  rw [HE1.out]
  clear X0 X1 X2 X3 X4 X5 X6 X7 Y0 Y1 Y2 Y3 Y4 Y5 Y6 Y7
  (with_reducible refine (there_any a b c _ l who _ HI.out).mono ?_)
  rintro e w2 ⟨rfl, hb2⟩
  replace X := hide (X.out.below hb2)
  replace Y := hide (Y.out.below hb2)
  replace HI := hide (HI.out.below hb2)
  replace hB := bcall hB hb2
  have hs2 := hb2.size
  clear hb2
  rw [HT.out]
  obtain ⟨X0, X1, X2, X3⟩ := X.out.all
  obtain ⟨X4, X5, X6, X7⟩ := X.out.free
  obtain ⟨Y0, Y1, Y2, Y3⟩ := Y.out.all
  obtain ⟨Y4, Y5, Y6, Y7⟩ := Y.out.free
  go_wp2
  refine bodyPost_ret (v := .tuple #[lv a b c (.slice A l.length n), .int .i64 0]) (by simp [results, Try.results12, go_sem, Y0, Y1, Y2, Y3]) rfl ⟨.slice A l.length n, rfl, ?_, ?_⟩
  · refine HI0.out.below ?_
    repeat (first | (with_reducible exact hB) | (with_reducible refine bset ?_ _ _ (by omega) _) | (with_reducible refine Below.drew ?_))
  · repeat (first | (with_reducible exact hB) | (with_reducible refine bset ?_ _ _ (by omega) _) | (with_reducible refine Below.drew ?_))
set_option maxRecDepth 100000 in
set_option maxHeartbeats 2000000 in
theorem rTake_want (a b c : Int) (v : Value) (l : List Int) (j : Nat) (hj : j < l.length) (want : Int) (hw : 0 < want) (hc : 0 < c) (hle : want ≤ c) (w : World) (h : Ints w v l) (hbig : l.length * 8 ≤ 140737488351232) :
    Calls Try.prog 12 #[lv a b c v, .int .i64 ((j : Int) + 1), .int .i64 want] w fun e w' => ∃ v', e = .returned (.tuple #[lv a b (s64 (c - want)) v', .int .i64 want]) ∧ Ints w' v' (l.set j (s64 (l[j] + want))) ∧ Below w.heap.size w w' := by
  have HT := hide (show lThere ⟨a, b, c, l⟩ ((j : Int) + 1) = true from there_iff.2 ⟨by omega, by show _ ≤ (l.length : Int); omega⟩)
  have hB : Below w.heap.size w w := Below.refl _ _
  have HI0 := hide h
  have HI := hide h
  obtain ⟨A, n, rfl, hn1, hn2, -⟩ := id h
  unfold maxLen at hn2
  clear h
  obtain ⟨w1, e1, hb1, hs1, X, Y⟩ := lbox2 w a b c (.slice A l.length n) 26 0 0 0 (.slice none 0 0) 26
  have HE1 := hide e1
  have X := hide X
  have Y := hide Y
  clear e1
  replace HI := hide (HI.out.below hb1)
  replace hB := bcall hB hb1
  clear hb1
  have e2 := wrap_s (c - want)
  obtain ⟨c1, hc1⟩ : ∃ y, s64 (c - want) = y := ⟨_, rfl⟩
  rw [hc1] at e2
  have HC1 := hide hc1
  clear hc1
  obtain ⟨X0, X1, X2, X3⟩ := X.out.all
  obtain ⟨X4, X5, X6, X7⟩ := X.out.free
  obtain ⟨Y0, Y1, Y2, Y3⟩ := Y.out.all
  obtain ⟨Y4, Y5, Y6, Y7⟩ := Y.out.free
  go_enter Try.func12, Try.ntmps12
  go_wp2_with fail
  rw [HE1.out]
  clear X0 X1 X2 X3 X4 X5 X6 X7 Y0 Y1 Y2 Y3 Y4 Y5 Y6 Y7
  (with_reducible refine (there_any a b c _ l ((j : Int) + 1) _ HI.out).mono ?_)
  rintro e w2 ⟨rfl, hb2⟩
  replace X := hide (X.out.below hb2)
  replace Y := hide (Y.out.below hb2)
  replace HI := hide (HI.out.below hb2)
  replace hB := bcall hB hb2
  have hs2 := hb2.size
  clear hb2
  rw [HT.out]
  obtain ⟨X0, X1, X2, X3⟩ := X.out.all
  obtain ⟨X4, X5, X6, X7⟩ := X.out.free
  obtain ⟨Y0, Y1, Y2, Y3⟩ := Y.out.all
  obtain ⟨Y4, Y5, Y6, Y7⟩ := Y.out.free
  go_upto_region 5 with (fail)
  clear X0 X1 X2 X3 X4 X5 X6 X7 Y0 Y1 Y2 Y3 Y4 Y5 Y6 Y7
  obtain ⟨w3, e3⟩ : ∃ w' : World, w2.setCell ⟨w.heap.size, 2, none⟩ (.int .i64 c1) = w' := ⟨_, rfl⟩
  rw [e3]
  have X := X.out.put2 (c1)
  have Y := rbx_other (g := w.heap.size) (o := 2) Y.out (.int .i64 c1) (by omega)
  rw [e3] at X Y
  have X := hide X
  have Y := hide Y
  have hs3 : w3.heap.size = w2.heap.size := by rw [← e3]; exact set_size _ _ _
  replace hB := bset hB w.heap.size 2 (Nat.le_refl _) (.int .i64 c1)
  rw [e3] at hB
  replace HI := hide (HI0.out.below hB)
  clear e3
  obtain ⟨X0, X1, X2, X3⟩ := X.out.all
  obtain ⟨X4, X5, X6, X7⟩ := X.out.free
  obtain ⟨Y0, Y1, Y2, Y3⟩ := Y.out.all
  obtain ⟨Y4, Y5, Y6, Y7⟩ := Y.out.free
  go_wp2_with fail
  clear X0 X1 X2 X3 X4 X5 X6 X7 Y0 Y1 Y2 Y3 Y4 Y5 Y6 Y7
  (with_reducible refine (more_any a b c1 _ l j hj want _ HI.out hbig).mono ?_)
  rintro e w4 ⟨v', rfl, hown, hb4⟩
  replace X := hide (X.out.below hb4)
  replace Y := hide (Y.out.below hb4)
  replace HI := hide (HI.out.below hb4)
  replace hB := bcall hB hb4
  have hs4 := hb4.size
  clear hb4
  obtain ⟨A', c', rfl, q1, q2⟩ := own_form hown
  unfold maxLen at q2
  have HO := hide hown
  clear hown
  obtain ⟨X0, X1, X2, X3⟩ := X.out.all
  obtain ⟨X4, X5, X6, X7⟩ := X.out.free
  obtain ⟨Y0, Y1, Y2, Y3⟩ := Y.out.all
  obtain ⟨Y4, Y5, Y6, Y7⟩ := Y.out.free
  go_wp2
  refine bodyPost_ret (v := .tuple #[lv a b c1 (.slice A' (l.set j (s64 (l[j] + want))).length c'), .int .i64 want]) (by simp [results, Try.results12, go_sem, Y0, Y1, Y2, Y3]) rfl ⟨.slice A' (l.set j (s64 (l[j] + want))).length c', by rw [HC1.out], ?_, ?_⟩
  · refine OwnB.ints (base := w3.heap.size) ?_
    repeat (first | (with_reducible exact HO.out) | (with_reducible refine ownsRow_setCell_below ?_ (by simp; omega) _) | (with_reducible refine row_drew ?_))
  · repeat (first | (with_reducible exact hB) | (with_reducible refine bset ?_ _ _ (by omega) _) | (with_reducible refine Below.drew ?_))
set_option maxRecDepth 100000 in
set_option maxHeartbeats 2000000 in
theorem rTake_pool (a b c : Int) (v : Value) (l : List Int) (j : Nat) (hj : j < l.length) (want : Int) (hw : 0 < want) (hc : 0 < c) (hle : c < want) (w : World) (h : Ints w v l) (hbig : l.length * 8 ≤ 140737488351232) :
    Calls Try.prog 12 #[lv a b c v, .int .i64 ((j : Int) + 1), .int .i64 want] w fun e w' => ∃ v', e = .returned (.tuple #[lv a b (s64 (c - c)) v', .int .i64 c]) ∧ Ints w' v' (l.set j (s64 (l[j] + c))) ∧ Below w.heap.size w w' := by
  have HT := hide (show lThere ⟨a, b, c, l⟩ ((j : Int) + 1) = true from there_iff.2 ⟨by omega, by show _ ≤ (l.length : Int); omega⟩)
  have hB : Below w.heap.size w w := Below.refl _ _
  have HI0 := hide h
  have HI := hide h
  obtain ⟨A, n, rfl, hn1, hn2, -⟩ := id h
  unfold maxLen at hn2
  clear h
  obtain ⟨w1, e1, hb1, hs1, X, Y⟩ := lbox2 w a b c (.slice A l.length n) 26 0 0 0 (.slice none 0 0) 26
  have HE1 := hide e1
  have X := hide X
  have Y := hide Y
  clear e1
  replace HI := hide (HI.out.below hb1)
  replace hB := bcall hB hb1
  clear hb1
  have HC1 := hide (show s64 (c - c) = 0 by rw [Int.sub_self]; rfl)
  obtain ⟨X0, X1, X2, X3⟩ := X.out.all
  obtain ⟨X4, X5, X6, X7⟩ := X.out.free
  obtain ⟨Y0, Y1, Y2, Y3⟩ := Y.out.all
  obtain ⟨Y4, Y5, Y6, Y7⟩ := Y.out.free
  go_enter Try.func12, Try.ntmps12
  go_wp2_with fail
  rw [HE1.out]
  clear X0 X1 X2 X3 X4 X5 X6 X7 Y0 Y1 Y2 Y3 Y4 Y5 Y6 Y7
  (with_reducible refine (there_any a b c _ l ((j : Int) + 1) _ HI.out).mono ?_)
  rintro e w2 ⟨rfl, hb2⟩
  replace X := hide (X.out.below hb2)
  replace Y := hide (Y.out.below hb2)
  replace HI := hide (HI.out.below hb2)
  replace hB := bcall hB hb2
  have hs2 := hb2.size
  clear hb2
  rw [HT.out]
  obtain ⟨X0, X1, X2, X3⟩ := X.out.all
  obtain ⟨X4, X5, X6, X7⟩ := X.out.free
  obtain ⟨Y0, Y1, Y2, Y3⟩ := Y.out.all
  obtain ⟨Y4, Y5, Y6, Y7⟩ := Y.out.free
  go_upto_region 5 with (fail)
  clear X0 X1 X2 X3 X4 X5 X6 X7 Y0 Y1 Y2 Y3 Y4 Y5 Y6 Y7
  obtain ⟨w3, e3⟩ : ∃ w' : World, w2.setCell ⟨w.heap.size, 2, none⟩ (.int .i64 0) = w' := ⟨_, rfl⟩
  rw [e3]
  have X := X.out.put2 (0)
  have Y := rbx_other (g := w.heap.size) (o := 2) Y.out (.int .i64 0) (by omega)
  rw [e3] at X Y
  have X := hide X
  have Y := hide Y
  have hs3 : w3.heap.size = w2.heap.size := by rw [← e3]; exact set_size _ _ _
  replace hB := bset hB w.heap.size 2 (Nat.le_refl _) (.int .i64 0)
  rw [e3] at hB
  replace HI := hide (HI0.out.below hB)
  clear e3
  obtain ⟨X0, X1, X2, X3⟩ := X.out.all
  obtain ⟨X4, X5, X6, X7⟩ := X.out.free
  obtain ⟨Y0, Y1, Y2, Y3⟩ := Y.out.all
  obtain ⟨Y4, Y5, Y6, Y7⟩ := Y.out.free
  go_wp2_with fail
  clear X0 X1 X2 X3 X4 X5 X6 X7 Y0 Y1 Y2 Y3 Y4 Y5 Y6 Y7
  (with_reducible refine (more_any a b 0 _ l j hj c _ HI.out hbig).mono ?_)
  rintro e w4 ⟨v', rfl, hown, hb4⟩
  replace X := hide (X.out.below hb4)
  replace Y := hide (Y.out.below hb4)
  replace HI := hide (HI.out.below hb4)
  replace hB := bcall hB hb4
  have hs4 := hb4.size
  clear hb4
  obtain ⟨A', c', rfl, q1, q2⟩ := own_form hown
  unfold maxLen at q2
  have HO := hide hown
  clear hown
  obtain ⟨X0, X1, X2, X3⟩ := X.out.all
  obtain ⟨X4, X5, X6, X7⟩ := X.out.free
  obtain ⟨Y0, Y1, Y2, Y3⟩ := Y.out.all
  obtain ⟨Y4, Y5, Y6, Y7⟩ := Y.out.free
  go_wp2
  refine bodyPost_ret (v := .tuple #[lv a b 0 (.slice A' (l.set j (s64 (l[j] + c))).length c'), .int .i64 c]) (by simp [results, Try.results12, go_sem, Y0, Y1, Y2, Y3]) rfl ⟨.slice A' (l.set j (s64 (l[j] + c))).length c', by rw [HC1.out], ?_, ?_⟩
  · refine OwnB.ints (base := w3.heap.size) ?_
    repeat (first | (with_reducible exact HO.out) | (with_reducible refine ownsRow_setCell_below ?_ (by simp; omega) _) | (with_reducible refine row_drew ?_))
  · repeat (first | (with_reducible exact hB) | (with_reducible refine bset ?_ _ _ (by omega) _) | (with_reducible refine Below.drew ?_))
set_option maxRecDepth 100000 in
set_option maxHeartbeats 2000000 in
theorem rSpend_no (a b c : Int) (v : Value) (l : List Int) (who p q : Int) (hm : lMay ⟨a, b, c, l⟩ who p q = false) (w : World) (h : Ints w v l) :
    Calls Try.prog 14 #[lv a b c v, .int .i64 who, .int .i64 p, .int .i64 q] w fun e w' => ∃ v', e = .returned (.tuple #[lv a b c v', .bool false]) ∧ Ints w' v' l ∧ Below w.heap.size w w' := by
  have HM := hide hm
  clear hm
  have hB : Below w.heap.size w w := Below.refl _ _
  have HI0 := hide h
  have HI := hide h
  obtain ⟨A, n, rfl, hn1, hn2, -⟩ := id h
  unfold maxLen at hn2
  clear h
  obtain ⟨w1, e1, hb1, hs1, X, Y⟩ := lbox2 w a b c (.slice A l.length n) 26 0 0 0 (.slice none 0 0) 26
  have HE1 := hide e1
  have X := hide X
  have Y := hide Y
  clear e1
  replace HI := hide (HI.out.below hb1)
  replace hB := bcall hB hb1
  clear hb1
  obtain ⟨X0, X1, X2, X3⟩ := X.out.all
  obtain ⟨X4, X5, X6, X7⟩ := X.out.free
  obtain ⟨Y0, Y1, Y2, Y3⟩ := Y.out.all
  obtain ⟨Y4, Y5, Y6, Y7⟩ := Y.out.free
  go_enter Try.func14, Try.ntmps14
  go_wp2_with fail
  rw [HE1.out]
  clear X0 X1 X2 X3 X4 X5 X6 X7 Y0 Y1 Y2 Y3 Y4 Y5 Y6 Y7
  (with_reducible refine (rMay_any a b c _ l who p q _ HI.out).mono ?_)
  rintro e w2 ⟨rfl, hb2⟩
  replace X := hide (X.out.below hb2)
  replace Y := hide (Y.out.below hb2)
  replace HI := hide (HI.out.below hb2)
  replace hB := bcall hB hb2
  have hs2 := hb2.size
  clear hb2
  rw [HM.out]
  obtain ⟨X0, X1, X2, X3⟩ := X.out.all
  obtain ⟨X4, X5, X6, X7⟩ := X.out.free
  obtain ⟨Y0, Y1, Y2, Y3⟩ := Y.out.all
  obtain ⟨Y4, Y5, Y6, Y7⟩ := Y.out.free
  go_wp2
  refine bodyPost_ret (v := .tuple #[lv a b c (.slice A l.length n), .bool false]) (by simp [results, Try.results14, go_sem, Y0, Y1, Y2, Y3]) rfl ⟨.slice A l.length n, rfl, ?_, ?_⟩
  · refine HI0.out.below ?_
    repeat (first | (with_reducible exact hB) | (with_reducible refine bset ?_ _ _ (by omega) _) | (with_reducible refine Below.drew ?_))
  · repeat (first | (with_reducible exact hB) | (with_reducible refine bset ?_ _ _ (by omega) _) | (with_reducible refine Below.drew ?_))
set_option maxRecDepth 100000 in
set_option maxHeartbeats 2000000 in
theorem rSpend_yes (a b c : Int) (v : Value) (l : List Int) (j : Nat) (hj : j < l.length) (p q : Int) (hm : lMay ⟨a, b, c, l⟩ ((j : Int) + 1) p q = true) (w : World) (h : Ints w v l) (hbig : l.length * 8 ≤ 140737488351232) :
    Calls Try.prog 14 #[lv a b c v, .int .i64 ((j : Int) + 1), .int .i64 p, .int .i64 q] w fun e w' => ∃ v', e = .returned (.tuple #[lv a (s64 (b + p)) c v', .bool true]) ∧ Ints w' v' (l.set j (s64 (l[j] + -p))) ∧ Below w.heap.size w w' := by
  have HM := hide hm
  obtain ⟨hp0, hp1⟩ := priced_pri (L := ⟨a, b, c, l⟩) (by unfold lMay at hm; rw [Bool.and_eq_true] at hm; exact hm.1)
  have pw : IntKind.i64.wrap (-p) = -p := by rw [wrap_s]; exact s64_small (by omega) (by omega)
  clear hm
  have hB : Below w.heap.size w w := Below.refl _ _
  have HI0 := hide h
  have HI := hide h
  obtain ⟨A, n, rfl, hn1, hn2, -⟩ := id h
  unfold maxLen at hn2
  clear h
  obtain ⟨w1, e1, hb1, hs1, X, Y⟩ := lbox2 w a b c (.slice A l.length n) 26 0 0 0 (.slice none 0 0) 26
  have HE1 := hide e1
  have X := hide X
  have Y := hide Y
  clear e1
  replace HI := hide (HI.out.below hb1)
  replace hB := bcall hB hb1
  clear hb1
  have e2 := wrap_s (b + p)
  obtain ⟨b1, hb1⟩ : ∃ y, s64 (b + p) = y := ⟨_, rfl⟩
  rw [hb1] at e2
  have HB1 := hide hb1
  clear hb1
  obtain ⟨X0, X1, X2, X3⟩ := X.out.all
  obtain ⟨X4, X5, X6, X7⟩ := X.out.free
  obtain ⟨Y0, Y1, Y2, Y3⟩ := Y.out.all
  obtain ⟨Y4, Y5, Y6, Y7⟩ := Y.out.free
  go_enter Try.func14, Try.ntmps14
  go_wp2_with fail
  rw [HE1.out]
  clear X0 X1 X2 X3 X4 X5 X6 X7 Y0 Y1 Y2 Y3 Y4 Y5 Y6 Y7
  (with_reducible refine (rMay_any a b c _ l ((j : Int) + 1) p q _ HI.out).mono ?_)
  rintro e w2 ⟨rfl, hb2⟩
  replace X := hide (X.out.below hb2)
  replace Y := hide (Y.out.below hb2)
  replace HI := hide (HI.out.below hb2)
  replace hB := bcall hB hb2
  have hs2 := hb2.size
  clear hb2
  rw [HM.out]
  obtain ⟨X0, X1, X2, X3⟩ := X.out.all
  obtain ⟨X4, X5, X6, X7⟩ := X.out.free
  obtain ⟨Y0, Y1, Y2, Y3⟩ := Y.out.all
  obtain ⟨Y4, Y5, Y6, Y7⟩ := Y.out.free
  go_upto_region 4 with (fail)
  clear X0 X1 X2 X3 X4 X5 X6 X7 Y0 Y1 Y2 Y3 Y4 Y5 Y6 Y7
  obtain ⟨w3, e3⟩ : ∃ w' : World, w2.setCell ⟨w.heap.size, 1, none⟩ (.int .i64 b1) = w' := ⟨_, rfl⟩
  rw [e3]
  have X := X.out.put1 (b1)
  have Y := rbx_other (g := w.heap.size) (o := 1) Y.out (.int .i64 b1) (by omega)
  rw [e3] at X Y
  have X := hide X
  have Y := hide Y
  have hs3 : w3.heap.size = w2.heap.size := by rw [← e3]; exact set_size _ _ _
  replace hB := bset hB w.heap.size 1 (Nat.le_refl _) (.int .i64 b1)
  rw [e3] at hB
  replace HI := hide (HI0.out.below hB)
  clear e3
  obtain ⟨X0, X1, X2, X3⟩ := X.out.all
  obtain ⟨X4, X5, X6, X7⟩ := X.out.free
  obtain ⟨Y0, Y1, Y2, Y3⟩ := Y.out.all
  obtain ⟨Y4, Y5, Y6, Y7⟩ := Y.out.free
  go_wp2_with fail
  clear X0 X1 X2 X3 X4 X5 X6 X7 Y0 Y1 Y2 Y3 Y4 Y5 Y6 Y7
  (with_reducible refine (more_any a b1 c _ l j hj (-p) _ HI.out hbig).mono ?_)
  rintro e w4 ⟨v', rfl, hown, hb4⟩
  replace X := hide (X.out.below hb4)
  replace Y := hide (Y.out.below hb4)
  replace HI := hide (HI.out.below hb4)
  replace hB := bcall hB hb4
  have hs4 := hb4.size
  clear hb4
  obtain ⟨A', c', rfl, q1, q2⟩ := own_form hown
  unfold maxLen at q2
  have HO := hide hown
  clear hown
  obtain ⟨X0, X1, X2, X3⟩ := X.out.all
  obtain ⟨X4, X5, X6, X7⟩ := X.out.free
  obtain ⟨Y0, Y1, Y2, Y3⟩ := Y.out.all
  obtain ⟨Y4, Y5, Y6, Y7⟩ := Y.out.free
  go_wp2
  refine bodyPost_ret (v := .tuple #[lv a b1 c (.slice A' (l.set j (s64 (l[j] + -p))).length c'), .bool true]) (by simp [results, Try.results14, go_sem, Y0, Y1, Y2, Y3]) rfl ⟨.slice A' (l.set j (s64 (l[j] + -p))).length c', by rw [HB1.out], ?_, ?_⟩
  · refine OwnB.ints (base := w3.heap.size) ?_
    repeat (first | (with_reducible exact HO.out) | (with_reducible refine ownsRow_setCell_below ?_ (by simp; omega) _) | (with_reducible refine row_drew ?_))
  · repeat (first | (with_reducible exact hB) | (with_reducible refine bset ?_ _ _ (by omega) _) | (with_reducible refine Below.drew ?_))
end Go.Proofs.Ytgbkphgclpgppaa
