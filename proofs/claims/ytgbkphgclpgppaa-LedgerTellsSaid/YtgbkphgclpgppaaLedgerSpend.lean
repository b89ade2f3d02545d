/- Layer ledger: Spend. -/
import Derived.Test.YtgbkphgclpgppaaLedgerTake
import Derived.Deep.Cut
import Derived.Shelf.Abstract
import Derived.Deep.RegionHeld3
namespace Go.Proofs.Ytgbkphgclpgppaa
open Go.RowKit

theorem ent_Spend1 : ∀ (xs : Array Value) (wx : World), (callFunc 34 xs).run Try.prog wx = .ok (.enter 34 xs) wx := enters_of Try.func34 (by kernel_rfl) rfl
theorem Spend1_any (B : Nat) (t x : Int) (w : World) (h : w.cell? ⟨B, 0, none⟩ = some (.int .i64 t)) : Calls Try.prog 34 (#[.int .i64 x] ++ #[.pointer (some ⟨B, 0, none⟩)]) w fun e w' => e = .returned (.int .i64 (s64 (x + -t))) ∧ w' = w := by
  have e1 := wrap_s (x - t)
  have ed : x - t = x + -t := by omega
  obtain ⟨y, hy⟩ : ∃ y, s64 (x - t) = y := ⟨_, rfl⟩
  rw [hy] at e1
  rw [ed] at hy
  have HY := hide hy
  clear hy ed
  show Calls Try.prog 34 #[.int .i64 x, .pointer (some ⟨B, 0, none⟩)] _ _
  go_enter Try.func34, Try.ntmps34
  go_wp2
  go_ret
  exact ⟨ret_int (by rw [HY.out]), rfl⟩
set_option maxRecDepth 100000 in
set_option maxHeartbeats 2000000 in
theorem Spend_no (a b c : Int) (v : Value) (l : List Int) (who p q : Int) (hm : lMay ⟨a, b, c, l⟩ who p q = false) (w : World) (h : Ints w v l) (hbig : l.length * 8 ≤ 140737488351232) :
    Calls Try.prog 13 #[lv a b c v, .int .i64 who, .int .i64 p, .int .i64 q] w fun e w' => ∃ v', e = .returned (.tuple #[lv a b c v', .bool false]) ∧ OwnB w.heap.size w' v' l ∧ Below w.heap.size w w' := by
  have hB : Below w.heap.size w w := Below.refl _ _
  have HI := hide h
  obtain ⟨A, n, rfl, hn1, hn2, -⟩ := id h
  unfold maxLen at hn2
  clear h
  have HM := hide hm
  clear hm
  obtain ⟨w0, e0, hx0, hz0, X⟩ := lbox w a b c (.slice A l.length n) 24
  obtain ⟨w0', e0', hx1, hz1, p0, p1⟩ := pbox w0 p 2
  obtain ⟨w1, e1, hx2, hz2, Y⟩ := lbox w0' 0 0 0 (.slice none 0 0) 24
  rw [hz0] at p0 p1
  have hs1 : w1.heap.size = w.heap.size + 3 := by omega
  rw [show w0'.heap.size = w.heap.size + 1 + 1 by omega] at Y
  have X := hide ((X.below hx1).below hx2)
  have Y := hide Y
  replace p1 := keepf hx2 p0 p1
  replace p0 := keepc hx2 p0
  have HE1 := hide (show ((w.alloc _).alloc _).alloc _ = w1 by rw [e0, e0', e1])
  replace hB := bcall hB (bcall hx0 (bcall hx1 hx2))
  replace HI := hide (HI.out.below hB)
  clear e0 e0' e1 hx0 hx1 hx2 hz0 hz1 hz2
  obtain ⟨X0, X1, X2, X3⟩ := X.out.all
  obtain ⟨X4, X5, X6, X7⟩ := X.out.free
  obtain ⟨Y0, Y1, Y2, Y3⟩ := Y.out.all
  obtain ⟨Y4, Y5, Y6, Y7⟩ := Y.out.free
  go_enter Try.func13, Try.ntmps13
  go_wp2_with fail
  rw [HE1.out]
  clear X0 X1 X2 X3 X4 X5 X6 X7 Y0 Y1 Y2 Y3 Y4 Y5 Y6 Y7
  (with_reducible refine (May_any a b c _ l who p q _ HI.out).mono ?_)
  rintro e w2 ⟨rfl, hb2⟩
  replace X := hide (X.out.below hb2)
  replace Y := hide (Y.out.below hb2)
  replace HI := hide (HI.out.below hb2)
  replace p1 := keepf hb2 p0 p1
  replace p0 := keepc hb2 p0
  replace hB := bcall hB hb2
  have hs2 := hb2.size
  clear hb2
  rw [HM.out]
  obtain ⟨X0, X1, X2, X3⟩ := X.out.all
  obtain ⟨X4, X5, X6, X7⟩ := X.out.free
  obtain ⟨Y0, Y1, Y2, Y3⟩ := Y.out.all
  obtain ⟨Y4, Y5, Y6, Y7⟩ := Y.out.free
  go_wp2_with fail
  clear X0 X1 X2 X3 X4 X5 X6 X7 Y0 Y1 Y2 Y3 Y4 Y5 Y6 Y7
  (with_reducible refine (copied_any a b c _ l _ HI.out hbig).mono ?_)
  rintro e w3 ⟨v', rfl, hown, hb3⟩
  replace X := hide (X.out.below hb3)
  replace Y := hide (Y.out.below hb3)
  replace HI := hide (HI.out.below hb3)
  replace p1 := keepf hb3 p0 p1
  replace p0 := keepc hb3 p0
  replace hB := bcall hB hb3
  have hs3 := hb3.size
  clear hb3
  obtain ⟨A', c', rfl, q1, q2⟩ := own_form hown
  unfold maxLen at q2
  have HO := hide hown
  clear hown
  obtain ⟨X0, X1, X2, X3⟩ := X.out.all
  obtain ⟨X4, X5, X6, X7⟩ := X.out.free
  obtain ⟨Y0, Y1, Y2, Y3⟩ := Y.out.all
  obtain ⟨Y4, Y5, Y6, Y7⟩ := Y.out.free
  go_wp2
  refine bodyPost_ret (v := .tuple #[lv a b c (.slice A' l.length c'), .bool false]) (by simp [results, Try.results13, go_sem, Y0, Y1, Y2, Y3]) rfl ⟨.slice A' l.length c', rfl, ?_, ?_⟩
  · skip
    refine own_base (base := w2.heap.size + 2) ?_ (by omega)
    repeat (first | (with_reducible exact HO.out) | (with_reducible refine ownsRow_setCell_below ?_ (by simp; omega) _) | (with_reducible refine row_drew ?_))
  · repeat (first | (with_reducible exact hB) | (with_reducible refine bset ?_ _ _ (by omega) _) | (with_reducible refine Below.drew ?_))
set_option maxRecDepth 100000 in
set_option maxHeartbeats 2000000 in
theorem Spend_yes (a b c : Int) (v : Value) (l : List Int) (j : Nat) (hj : j < l.length) (p q : Int) (hm : lMay ⟨a, b, c, l⟩ ((j : Int) + 1) p q = true) (w : World) (h : Ints w v l) (hbig : l.length * 8 ≤ 140737488351232) :
    Calls Try.prog 13 #[lv a b c v, .int .i64 ((j : Int) + 1), .int .i64 p, .int .i64 q] w fun e w' => ∃ v', e = .returned (.tuple #[lv a (s64 (b + p)) c v', .bool true]) ∧ OwnB w.heap.size w' v' (l.set j (s64 (l[j] + -p))) ∧ Below w.heap.size w w' := by
  have hB : Below w.heap.size w w := Below.refl _ _
  have HI := hide h
  obtain ⟨A, n, rfl, hn1, hn2, -⟩ := id h
  unfold maxLen at hn2
  clear h
  have HM := hide hm
  clear hm
  have e2 := wrap_s (b + p)
  obtain ⟨b1, hb1⟩ : ∃ y, s64 (b + p) = y := ⟨_, rfl⟩
  rw [hb1] at e2
  have HB1 := hide hb1
  clear hb1
  obtain ⟨w0, e0, hx0, hz0, X⟩ := lbox w a b c (.slice A l.length n) 24
  obtain ⟨w0', e0', hx1, hz1, p0, p1⟩ := pbox w0 p 2
  obtain ⟨w1, e1, hx2, hz2, Y⟩ := lbox w0' 0 0 0 (.slice none 0 0) 24
  rw [hz0] at p0 p1
  have hs1 : w1.heap.size = w.heap.size + 3 := by omega
  rw [show w0'.heap.size = w.heap.size + 1 + 1 by omega] at Y
  have X := hide ((X.below hx1).below hx2)
  have Y := hide Y
  replace p1 := keepf hx2 p0 p1
  replace p0 := keepc hx2 p0
  have HE1 := hide (show ((w.alloc _).alloc _).alloc _ = w1 by rw [e0, e0', e1])
  replace hB := bcall hB (bcall hx0 (bcall hx1 hx2))
  replace HI := hide (HI.out.below hB)
  clear e0 e0' e1 hx0 hx1 hx2 hz0 hz1 hz2
  obtain ⟨X0, X1, X2, X3⟩ := X.out.all
  obtain ⟨X4, X5, X6, X7⟩ := X.out.free
  obtain ⟨Y0, Y1, Y2, Y3⟩ := Y.out.all
  obtain ⟨Y4, Y5, Y6, Y7⟩ := Y.out.free
  go_enter Try.func13, Try.ntmps13
  have hmf : ∀ (fn : Fn) (first cap : Array Value) (w : World), (Instr.makeFunc fn first cap).run Try.prog w = .ok (.func fn first cap) w := fun _ _ _ _ => rfl
  go_wp2_with fail
  rw [HE1.out]
  clear X0 X1 X2 X3 X4 X5 X6 X7 Y0 Y1 Y2 Y3 Y4 Y5 Y6 Y7
  (with_reducible refine (May_any a b c _ l ((j : Int) + 1) p q _ HI.out).mono ?_)
  rintro e w2 ⟨rfl, hb2⟩
  replace X := hide (X.out.below hb2)
  replace Y := hide (Y.out.below hb2)
  replace HI := hide (HI.out.below hb2)
  replace p1 := keepf hb2 p0 p1
  replace p0 := keepc hb2 p0
  replace hB := bcall hB hb2
  have hs2 := hb2.size
  clear hb2
  rw [HM.out]
  obtain ⟨X0, X1, X2, X3⟩ := X.out.all
  obtain ⟨X4, X5, X6, X7⟩ := X.out.free
  obtain ⟨Y0, Y1, Y2, Y3⟩ := Y.out.all
  obtain ⟨Y4, Y5, Y6, Y7⟩ := Y.out.free
  have HCL := hide (fun (x : Int) (w' : World) (hb : Below w2.heap.size w2 w') => Spend1_any (w.heap.size + 1) p x w' (keepc hb p0))
  go_wp2_with fail
  clear X0 X1 X2 X3 X4 X5 X6 X7 Y0 Y1 Y2 Y3 Y4 Y5 Y6 Y7
  (with_reducible refine (turned_yes 34 #[.pointer (some ⟨w.heap.size + 1, 0, none⟩)] (-p) a b c _ l j hj _ HI.out hbig ent_Spend1 HCL.out).mono ?_)
  rintro e w3 ⟨v', rfl, hown, hb3⟩
  replace X := hide (X.out.below hb3)
  replace Y := hide (Y.out.below hb3)
  replace HI := hide (HI.out.below hb3)
  replace p1 := keepf hb3 p0 p1
  replace p0 := keepc hb3 p0
  replace hB := bcall hB hb3
  have hs3 := hb3.size
  clear hb3
  clear HCL
  obtain ⟨r, hr⟩ : ∃ r, l.set j (s64 (l[j] + -p)) = r := ⟨_, rfl⟩
  rw [hr] at hown
  have HR := hide hr
  clear hr
  obtain ⟨A', c', rfl, q1, q2⟩ := own_form hown
  unfold maxLen at q2
  have HO := hide hown
  clear hown
  have Xz := X
  have Yz := Y
  have HIz := HI
  have HOz := HO
  have p0z := p0
  have hA : Below w3.heap.size w3 w3 := Below.refl _ _
  obtain ⟨w4, e4, hb4, hs4, T⟩ := lbox w3 (a) (b) (c) (.slice A' r.length c') 24
  have HE4 := hide e4
  have T := hide T
  clear e4
  replace X := hide (X.out.below hb4)
  replace Y := hide (Y.out.below hb4)
  replace HI := hide (HI.out.below hb4)
  replace HO := hide (own_below HO.out hb4)
  replace p1 := keepf hb4 p0 p1
  replace p0 := keepc hb4 p0
  replace hB := bcall hB hb4
  replace hA := bcall hA hb4
  clear hb4
  go_upto_region 4 with (fail)
  rw [HE4.out]
  obtain ⟨T0, T1, T2, T3⟩ := T.out.all
  obtain ⟨T4, T5, T6, T7⟩ := T.out.free
  go_upto_region 5 with (fail)
  clear T0 T1 T2 T3 T4 T5 T6 T7
  obtain ⟨w5, e5⟩ : ∃ w' : World, w4.setCell ⟨w3.heap.size, 1, none⟩ (.int .i64 b1) = w' := ⟨_, rfl⟩
  have HE5 := hide e5
  have T := T.out.put1 b1
  rw [e5] at T
  have T := hide T
  have hs5 : w5.heap.size = w4.heap.size := by rw [← e5]; exact set_size _ _ _
  replace hA := bset hA w3.heap.size 1 (Nat.le_refl _) (.int .i64 b1)
  rw [e5] at hA
  replace hB := bset hB w3.heap.size 1 (by omega) (.int .i64 b1)
  rw [e5] at hB
  replace X := hide (Xz.out.below hA)
  replace Y := hide (Yz.out.below hA)
  replace HI := hide (HIz.out.below hA)
  replace HO := hide (own_below HOz.out hA)
  replace p0 := keepc hA p0z
  clear e5
  rw [HE5.out]
  obtain ⟨T0, T1, T2, T3⟩ := T.out.all
  obtain ⟨T4, T5, T6, T7⟩ := T.out.free
  obtain ⟨Y0, Y1, Y2, Y3⟩ := Y.out.all
  obtain ⟨Y4, Y5, Y6, Y7⟩ := Y.out.free
  go_wp2
  refine bodyPost_ret (v := .tuple #[lv a b1 c (.slice A' r.length c'), .bool true]) (by simp [results, Try.results13, go_sem, Y0, Y1, Y2, Y3]) rfl ⟨.slice A' r.length c', by rw [HB1.out], ?_, ?_⟩
  · rw [HR.out]
    refine own_base (base := w2.heap.size) ?_ (by omega)
    repeat (first | (with_reducible exact HO.out) | (with_reducible refine ownsRow_setCell_below ?_ (by simp; omega) _) | (with_reducible refine row_drew ?_))
  · repeat (first | (with_reducible exact hB) | (with_reducible refine bset ?_ _ _ (by omega) _) | (with_reducible refine Below.drew ?_))
theorem Spend_any (a b c : Int) (v : Value) (l : List Int) (who p q : Int) (w : World) (h : Ints w v l) (hbig : l.length * 8 ≤ 140737488351232) (R : Lg) (d : Bool) (hR : lSpend ⟨a, b, c, l⟩ who p q = R) (hd : lMay ⟨a, b, c, l⟩ who p q = d) :
    Calls Try.prog 13 #[lv a b c v, .int .i64 who, .int .i64 p, .int .i64 q] w fun e w' => ∃ v', e = .returned (.tuple #[lv R.scanned R.spent R.pool v', .bool d]) ∧ OwnB w.heap.size w' v' R.bal ∧ Below w.heap.size w w' := by
  subst hR
  cases d
  · have e : lSpend ⟨a, b, c, l⟩ who p q = ⟨a, b, c, l⟩ := by unfold lSpend; rw [hd]; rfl
    rw [e]
    exact Spend_no a b c v l who p q hd w h hbig
  · have ht : lThere ⟨a, b, c, l⟩ who = true := by unfold lMay at hd; rw [Bool.and_eq_true] at hd; exact priced_there hd.1
    obtain ⟨j, rfl, -, hj⟩ := there_at ht
    simp only at hj
    have e : lSpend ⟨a, b, c, l⟩ ((j : Int) + 1) p q = ⟨a, s64 (b + p), c, l.set j (s64 (l[j] + -p))⟩ := by unfold lSpend; rw [hd, if_pos rfl, lPut_at' l hj]
    rw [e]
    exact Spend_yes a b c v l j hj p q hd w h hbig
end Go.Proofs.Ytgbkphgclpgppaa
