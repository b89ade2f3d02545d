/- Layer ledger: a deed of the law's. -/
import Derived.Test.YtgbkphgclpgppaaLedgerEarn
import Derived.Test.YtgbkphgclpgppaaLedgerTake
import Derived.Test.YtgbkphgclpgppaaLedgerSpend
import Derived.Deep.Cut
namespace Go.Proofs.Ytgbkphgclpgppaa
open Go.RowKit Go.Joins

abbrev dv (k x n q : Int) : Value := .agg #[.int .u8 k, .int .u8 x, .int .u8 n, .int .u8 q]
/-- block B has a deed -/
structure Dx (w : World) (B : Nat) (k x n q : Int) : Prop where
  blk : w.heap[B]? = some (.cells #[.int .u8 k, .int .u8 x, .int .u8 n, .int .u8 q] 51)
section
variable {w w' : World} {B : Nat} {k x n q : Int}
theorem Dx.lt (h : Dx w B k x n q) : B < w.heap.size := (Array.getElem?_eq_some_iff.1 h.blk).1
theorem Dx.below (h : Dx w B k x n q) (hb : Below w.heap.size w w') : Dx w' B k x n q := ⟨(hb.block B h.lt).trans h.blk⟩
theorem Dx.all (h : Dx w B k x n q) : w.cell? ⟨B, 0, none⟩ = some (.int .u8 k) ∧ w.cell? ⟨B, 1, none⟩ = some (.int .u8 x) ∧ w.cell? ⟨B, 2, none⟩ = some (.int .u8 n) ∧ w.cell? ⟨B, 3, none⟩ = some (.int .u8 q) :=
  ⟨cell_of_block h.blk 0, cell_of_block h.blk 1, cell_of_block h.blk 2, cell_of_block h.blk 3⟩
end
def U8 (x : Int) : Prop := 0 ≤ x ∧ x ≤ 255
theorem tm {x : Int} (h : U8 x) (m : Int) : x.tmod m = x % m := Int.tmod_eq_emod_of_nonneg h.1
set_option maxRecDepth 100000 in
set_option maxHeartbeats 2000000 in
theorem do_0 (k x n q : Int) (hk : U8 k) (hx : U8 x) (_hn : U8 n) (_hq : U8 q) (hk4 : k % 4 = 0) (a b c : Int) (v : Value) (l : List Int) (w : World) (h : Ints w v l) (hbig : l.length * 8 ≤ 140737488351232) (R : Lg) (hR : lEarn ⟨a, b, c, l⟩ (x % 6) = R) :
    Calls Try.prog 27 #[dv k x n q, lv a b c v] w fun e w' => ∃ v', e = .returned (lv R.scanned R.spent R.pool v') ∧ OwnB w.heap.size w' v' R.bal ∧ Below w.heap.size w w' := by
  have hB : Below w.heap.size w w := Below.refl _ _
  have HI := hide h
  obtain ⟨A, m, rfl, hn1, hn2, -⟩ := id h
  unfold maxLen at hn2
  clear h
  have t0 := tm hk 4
  rw [hk4] at t0
  have t1 := tm hx 6
  obtain ⟨y, hy⟩ : ∃ y, x % 6 = y := ⟨_, rfl⟩
  have y0 : 0 ≤ y ∧ y ≤ 5 := by omega
  rw [hy] at t1 hR
  obtain ⟨y1, y2⟩ := y0
  clear hy
  have HR := hide hR
  clear hR hk hx _hn _hq hk4
  obtain ⟨w0, e0, hx0, hz0, D⟩ : ∃ w0, w.alloc (.cells #[.int .u8 k, .int .u8 x, .int .u8 n, .int .u8 q] 51) = w0 ∧ Below w.heap.size w w0 ∧ w0.heap.size = w.heap.size + 1 ∧ Dx w0 w.heap.size k x n q := ⟨_, rfl, bal _ _, by simp, ⟨heap_alloc_new w _⟩⟩
  obtain ⟨w1, e1, hx1, hz1, X, Y⟩ := lbox2 w0 a b c (.slice A l.length m) 24 0 0 0 (.slice none 0 0) 24
  have hs1 : w1.heap.size = w.heap.size + 3 := by omega
  rw [hz0] at X Y
  have D := hide (D.below hx1)
  have X := hide X
  have Y := hide Y
  have HE1 := hide (show ((w.alloc _).alloc _).alloc _ = w1 by rw [e0, e1])
  replace hB := bcall hx0 hx1
  replace HI := hide (HI.out.below hB)
  clear e0 e1 hx0 hx1 hz0 hz1
  obtain ⟨X0, X1, X2, X3⟩ := X.out.all
  obtain ⟨X4, X5, X6, X7⟩ := X.out.free
  obtain ⟨Y0, Y1, Y2, Y3⟩ := Y.out.all
  obtain ⟨Y4, Y5, Y6, Y7⟩ := Y.out.free
  obtain ⟨D0, D1, D2, D3⟩ := D.out.all
  go_enter Try.func27, Try.ntmps27
  go_wp2_with fail
  rw [HE1.out]
  clear X0 X1 X2 X3 X4 X5 X6 X7 Y0 Y1 Y2 Y3 Y4 Y5 Y6 Y7 D0 D1 D2 D3
  (with_reducible refine (Earn_any a b c _ l y _ HI.out hbig R HR.out).mono ?_)
  rintro e w2 ⟨v', rfl, hown, hb2⟩
  replace X := hide (X.out.below hb2)
  replace Y := hide (Y.out.below hb2)
  replace D := hide (D.out.below hb2)
  replace HI := hide (HI.out.below hb2)
  replace hB := bcall hB hb2
  have hs2 := hb2.size
  clear hb2
  obtain ⟨A', c', rfl, q1, q2⟩ := own_form hown
  unfold maxLen at q2
  have HO := hide hown
  clear hown
  obtain ⟨X0, X1, X2, X3⟩ := X.out.all
  obtain ⟨X4, X5, X6, X7⟩ := X.out.free
  obtain ⟨Y0, Y1, Y2, Y3⟩ := Y.out.all
  obtain ⟨Y4, Y5, Y6, Y7⟩ := Y.out.free
  go_wp2
  refine bodyPost_ret (v := lv R.scanned R.spent R.pool (.slice A' R.bal.length c')) (by simp [results, Try.results27, go_sem, Y0, Y1, Y2, Y3]) rfl ⟨.slice A' R.bal.length c', rfl, ?_, ?_⟩
  · refine own_base (base := w1.heap.size) ?_ (by omega)
    repeat (first | (with_reducible exact HO.out) | (with_reducible refine ownsRow_setCell_below ?_ (by simp; omega) _) | (with_reducible refine row_drew ?_))
  · repeat (first | (with_reducible exact hB) | (with_reducible refine bset ?_ _ _ (by omega) _) | (with_reducible refine Below.drew ?_))
set_option maxRecDepth 100000 in
set_option maxHeartbeats 2000000 in
theorem do_1 (k x n q : Int) (hk : U8 k) (hx : U8 x) (_hn : U8 n) (_hq : U8 q) (hk4 : k % 4 = 1) (a b c : Int) (v : Value) (l : List Int) (w : World) (h : Ints w v l) (hbig : l.length * 8 ≤ 140737488351232) (R : Lg) (hR : lEarn ⟨a, b, c, l⟩ (x % 6) = R) :
    Calls Try.prog 27 #[dv k x n q, lv a b c v] w fun e w' => ∃ v', e = .returned (lv R.scanned R.spent R.pool v') ∧ OwnB w.heap.size w' v' R.bal ∧ Below w.heap.size w w' := by
  have hB : Below w.heap.size w w := Below.refl _ _
  have HI := hide h
  obtain ⟨A, m, rfl, hn1, hn2, -⟩ := id h
  unfold maxLen at hn2
  clear h
  have t0 := tm hk 4
  rw [hk4] at t0
  have t1 := tm hx 6
  obtain ⟨y, hy⟩ : ∃ y, x % 6 = y := ⟨_, rfl⟩
  have y0 : 0 ≤ y ∧ y ≤ 5 := by omega
  rw [hy] at t1 hR
  obtain ⟨y1, y2⟩ := y0
  clear hy
  have HR := hide hR
  clear hR hk hx _hn _hq hk4
  obtain ⟨w0, e0, hx0, hz0, D⟩ : ∃ w0, w.alloc (.cells #[.int .u8 k, .int .u8 x, .int .u8 n, .int .u8 q] 51) = w0 ∧ Below w.heap.size w w0 ∧ w0.heap.size = w.heap.size + 1 ∧ Dx w0 w.heap.size k x n q := ⟨_, rfl, bal _ _, by simp, ⟨heap_alloc_new w _⟩⟩
  obtain ⟨w1, e1, hx1, hz1, X, Y⟩ := lbox2 w0 a b c (.slice A l.length m) 24 0 0 0 (.slice none 0 0) 24
  have hs1 : w1.heap.size = w.heap.size + 3 := by omega
  rw [hz0] at X Y
  have D := hide (D.below hx1)
  have X := hide X
  have Y := hide Y
  have HE1 := hide (show ((w.alloc _).alloc _).alloc _ = w1 by rw [e0, e1])
  replace hB := bcall hx0 hx1
  replace HI := hide (HI.out.below hB)
  clear e0 e1 hx0 hx1 hz0 hz1
  obtain ⟨X0, X1, X2, X3⟩ := X.out.all
  obtain ⟨X4, X5, X6, X7⟩ := X.out.free
  obtain ⟨Y0, Y1, Y2, Y3⟩ := Y.out.all
  obtain ⟨Y4, Y5, Y6, Y7⟩ := Y.out.free
  obtain ⟨D0, D1, D2, D3⟩ := D.out.all
  go_enter Try.func27, Try.ntmps27
  go_wp2_with fail
  rw [HE1.out]
  clear X0 X1 X2 X3 X4 X5 X6 X7 Y0 Y1 Y2 Y3 Y4 Y5 Y6 Y7 D0 D1 D2 D3
  (with_reducible refine (Earn_any a b c _ l y _ HI.out hbig R HR.out).mono ?_)
  rintro e w2 ⟨v', rfl, hown, hb2⟩
  replace X := hide (X.out.below hb2)
  replace Y := hide (Y.out.below hb2)
  replace D := hide (D.out.below hb2)
  replace HI := hide (HI.out.below hb2)
  replace hB := bcall hB hb2
  have hs2 := hb2.size
  clear hb2
  obtain ⟨A', c', rfl, q1, q2⟩ := own_form hown
  unfold maxLen at q2
  have HO := hide hown
  clear hown
  obtain ⟨X0, X1, X2, X3⟩ := X.out.all
  obtain ⟨X4, X5, X6, X7⟩ := X.out.free
  obtain ⟨Y0, Y1, Y2, Y3⟩ := Y.out.all
  obtain ⟨Y4, Y5, Y6, Y7⟩ := Y.out.free
  go_wp2
  refine bodyPost_ret (v := lv R.scanned R.spent R.pool (.slice A' R.bal.length c')) (by simp [results, Try.results27, go_sem, Y0, Y1, Y2, Y3]) rfl ⟨.slice A' R.bal.length c', rfl, ?_, ?_⟩
  · refine own_base (base := w1.heap.size) ?_ (by omega)
    repeat (first | (with_reducible exact HO.out) | (with_reducible refine ownsRow_setCell_below ?_ (by simp; omega) _) | (with_reducible refine row_drew ?_))
  · repeat (first | (with_reducible exact hB) | (with_reducible refine bset ?_ _ _ (by omega) _) | (with_reducible refine Below.drew ?_))
set_option maxRecDepth 100000 in
set_option maxHeartbeats 2000000 in
theorem do_2 (k x n q : Int) (hk : U8 k) (hx : U8 x) (hn : U8 n) (_hq : U8 q) (hk4 : k % 4 = 2) (a b c : Int) (v : Value) (l : List Int) (w : World) (h : Ints w v l) (hbig : l.length * 8 ≤ 140737488351232) (R : Lg) (hR : lTake ⟨a, b, c, l⟩ (x % 6) (n % 9) = R) :
    Calls Try.prog 27 #[dv k x n q, lv a b c v] w fun e w' => ∃ v', e = .returned (lv R.scanned R.spent R.pool v') ∧ OwnB w.heap.size w' v' R.bal ∧ Below w.heap.size w w' := by
  have hB : Below w.heap.size w w := Below.refl _ _
  have HI := hide h
  obtain ⟨A, m, rfl, hn1, hn2, -⟩ := id h
  unfold maxLen at hn2
  clear h
  have t0 := tm hk 4
  rw [hk4] at t0
  have t1 := tm hx 6
  obtain ⟨y, hy⟩ : ∃ y, x % 6 = y := ⟨_, rfl⟩
  have y0 : 0 ≤ y ∧ y ≤ 5 := by omega
  rw [hy] at t1 hR
  obtain ⟨y1, y2⟩ := y0
  clear hy
  have t2 := tm hn 9
  obtain ⟨z, hz⟩ : ∃ z, n % 9 = z := ⟨_, rfl⟩
  have z0 : 0 ≤ z ∧ z ≤ 8 := by omega
  rw [hz] at t2 hR
  obtain ⟨z1, z2⟩ := z0
  clear hz
  have HR := hide hR
  clear hR hk hx hn _hq hk4
  obtain ⟨w0, e0, hx0, hz0, D⟩ : ∃ w0, w.alloc (.cells #[.int .u8 k, .int .u8 x, .int .u8 n, .int .u8 q] 51) = w0 ∧ Below w.heap.size w w0 ∧ w0.heap.size = w.heap.size + 1 ∧ Dx w0 w.heap.size k x n q := ⟨_, rfl, bal _ _, by simp, ⟨heap_alloc_new w _⟩⟩
  obtain ⟨w1, e1, hx1, hz1, X, Y⟩ := lbox2 w0 a b c (.slice A l.length m) 24 0 0 0 (.slice none 0 0) 24
  have hs1 : w1.heap.size = w.heap.size + 3 := by omega
  rw [hz0] at X Y
  have D := hide (D.below hx1)
  have X := hide X
  have Y := hide Y
  have HE1 := hide (show ((w.alloc _).alloc _).alloc _ = w1 by rw [e0, e1])
  replace hB := bcall hx0 hx1
  replace HI := hide (HI.out.below hB)
  clear e0 e1 hx0 hx1 hz0 hz1
  obtain ⟨X0, X1, X2, X3⟩ := X.out.all
  obtain ⟨X4, X5, X6, X7⟩ := X.out.free
  obtain ⟨Y0, Y1, Y2, Y3⟩ := Y.out.all
  obtain ⟨Y4, Y5, Y6, Y7⟩ := Y.out.free
  obtain ⟨D0, D1, D2, D3⟩ := D.out.all
  go_enter Try.func27, Try.ntmps27
  go_wp2_with fail
  rw [HE1.out]
  clear X0 X1 X2 X3 X4 X5 X6 X7 Y0 Y1 Y2 Y3 Y4 Y5 Y6 Y7 D0 D1 D2 D3
  (with_reducible refine (Take_any a b c _ l y z _ HI.out hbig R _ HR.out rfl).mono ?_)
  rintro e w2 ⟨v', rfl, hown, hb2⟩
  replace X := hide (X.out.below hb2)
  replace Y := hide (Y.out.below hb2)
  replace D := hide (D.out.below hb2)
  replace HI := hide (HI.out.below hb2)
  replace hB := bcall hB hb2
  have hs2 := hb2.size
  clear hb2
  obtain ⟨A', c', rfl, q1, q2⟩ := own_form hown
  unfold maxLen at q2
  have HO := hide hown
  clear hown
  obtain ⟨w3, e3, hb3, hs3, T⟩ := lbox w2 (R.scanned) (R.spent) (R.pool) (.slice A' R.bal.length c') 24
  have HE3 := hide e3
  have T := hide T
  clear e3
  replace X := hide (X.out.below hb3)
  replace Y := hide (Y.out.below hb3)
  replace D := hide (D.out.below hb3)
  replace HI := hide (HI.out.below hb3)
  replace HO := hide (own_below HO.out hb3)
  replace hB := bcall hB hb3
  clear hb3
  go_upto_region 8 with (fail)
  rw [HE3.out]
  obtain ⟨T0, T1, T2, T3⟩ := T.out.all
  obtain ⟨T4, T5, T6, T7⟩ := T.out.free
  obtain ⟨Y0, Y1, Y2, Y3⟩ := Y.out.all
  obtain ⟨Y4, Y5, Y6, Y7⟩ := Y.out.free
  go_wp2
  refine bodyPost_ret (v := lv R.scanned R.spent R.pool (.slice A' R.bal.length c')) (by simp [results, Try.results27, go_sem, Y0, Y1, Y2, Y3]) rfl ⟨.slice A' R.bal.length c', rfl, ?_, ?_⟩
  · refine own_base (base := w1.heap.size) ?_ (by omega)
    repeat (first | (with_reducible exact HO.out) | (with_reducible refine ownsRow_setCell_below ?_ (by simp; omega) _) | (with_reducible refine row_drew ?_))
  · repeat (first | (with_reducible exact hB) | (with_reducible refine bset ?_ _ _ (by omega) _) | (with_reducible refine Below.drew ?_))
set_option maxRecDepth 100000 in
set_option maxHeartbeats 2000000 in
theorem do_3 (k x n q : Int) (hk : U8 k) (hx : U8 x) (hn : U8 n) (hq : U8 q) (hk4 : k % 4 = 3) (a b c : Int) (v : Value) (l : List Int) (w : World) (h : Ints w v l) (hbig : l.length * 8 ≤ 140737488351232) (R : Lg) (hR : lSpend ⟨a, b, c, l⟩ (x % 6) (n % 9) (q % 9) = R) :
    Calls Try.prog 27 #[dv k x n q, lv a b c v] w fun e w' => ∃ v', e = .returned (lv R.scanned R.spent R.pool v') ∧ OwnB w.heap.size w' v' R.bal ∧ Below w.heap.size w w' := by
  have hB : Below w.heap.size w w := Below.refl _ _
  have HI := hide h
  obtain ⟨A, m, rfl, hn1, hn2, -⟩ := id h
  unfold maxLen at hn2
  clear h
  have t0 := tm hk 4
  rw [hk4] at t0
  have t1 := tm hx 6
  obtain ⟨y, hy⟩ : ∃ y, x % 6 = y := ⟨_, rfl⟩
  have y0 : 0 ≤ y ∧ y ≤ 5 := by omega
  rw [hy] at t1 hR
  obtain ⟨y1, y2⟩ := y0
  clear hy
  have t2 := tm hn 9
  obtain ⟨z, hz⟩ : ∃ z, n % 9 = z := ⟨_, rfl⟩
  have z0 : 0 ≤ z ∧ z ≤ 8 := by omega
  rw [hz] at t2 hR
  obtain ⟨z1, z2⟩ := z0
  clear hz
  have t3 := tm hq 9
  obtain ⟨u, hu⟩ : ∃ u, q % 9 = u := ⟨_, rfl⟩
  have u0 : 0 ≤ u ∧ u ≤ 8 := by omega
  rw [hu] at t3 hR
  obtain ⟨u1, u2⟩ := u0
  clear hu
  have HR := hide hR
  clear hR hk hx hn hq hk4
  obtain ⟨w0, e0, hx0, hz0, D⟩ : ∃ w0, w.alloc (.cells #[.int .u8 k, .int .u8 x, .int .u8 n, .int .u8 q] 51) = w0 ∧ Below w.heap.size w w0 ∧ w0.heap.size = w.heap.size + 1 ∧ Dx w0 w.heap.size k x n q := ⟨_, rfl, bal _ _, by simp, ⟨heap_alloc_new w _⟩⟩
  obtain ⟨w1, e1, hx1, hz1, X, Y⟩ := lbox2 w0 a b c (.slice A l.length m) 24 0 0 0 (.slice none 0 0) 24
  have hs1 : w1.heap.size = w.heap.size + 3 := by omega
  rw [hz0] at X Y
  have D := hide (D.below hx1)
  have X := hide X
  have Y := hide Y
  have HE1 := hide (show ((w.alloc _).alloc _).alloc _ = w1 by rw [e0, e1])
  replace hB := bcall hx0 hx1
  replace HI := hide (HI.out.below hB)
  clear e0 e1 hx0 hx1 hz0 hz1
  obtain ⟨X0, X1, X2, X3⟩ := X.out.all
  obtain ⟨X4, X5, X6, X7⟩ := X.out.free
  obtain ⟨Y0, Y1, Y2, Y3⟩ := Y.out.all
  obtain ⟨Y4, Y5, Y6, Y7⟩ := Y.out.free
  obtain ⟨D0, D1, D2, D3⟩ := D.out.all
  go_enter Try.func27, Try.ntmps27
  go_wp2_with fail
  rw [HE1.out]
  clear X0 X1 X2 X3 X4 X5 X6 X7 Y0 Y1 Y2 Y3 Y4 Y5 Y6 Y7 D0 D1 D2 D3
  (with_reducible refine (Spend_any a b c _ l y z u _ HI.out hbig R _ HR.out rfl).mono ?_)
  rintro e w2 ⟨v', rfl, hown, hb2⟩
  replace X := hide (X.out.below hb2)
  replace Y := hide (Y.out.below hb2)
  replace D := hide (D.out.below hb2)
  replace HI := hide (HI.out.below hb2)
  replace hB := bcall hB hb2
  have hs2 := hb2.size
  clear hb2
  obtain ⟨A', c', rfl, q1, q2⟩ := own_form hown
  unfold maxLen at q2
  have HO := hide hown
  clear hown
  obtain ⟨w3, e3, hb3, hs3, T⟩ := lbox w2 (R.scanned) (R.spent) (R.pool) (.slice A' R.bal.length c') 24
  have HE3 := hide e3
  have T := hide T
  clear e3
  replace X := hide (X.out.below hb3)
  replace Y := hide (Y.out.below hb3)
  replace D := hide (D.out.below hb3)
  replace HI := hide (HI.out.below hb3)
  replace HO := hide (own_below HO.out hb3)
  replace hB := bcall hB hb3
  clear hb3
  go_upto_region 10 with (fail)
  rw [HE3.out]
  obtain ⟨T0, T1, T2, T3⟩ := T.out.all
  obtain ⟨T4, T5, T6, T7⟩ := T.out.free
  obtain ⟨Y0, Y1, Y2, Y3⟩ := Y.out.all
  obtain ⟨Y4, Y5, Y6, Y7⟩ := Y.out.free
  go_wp2
  refine bodyPost_ret (v := lv R.scanned R.spent R.pool (.slice A' R.bal.length c')) (by simp [results, Try.results27, go_sem, Y0, Y1, Y2, Y3]) rfl ⟨.slice A' R.bal.length c', rfl, ?_, ?_⟩
  · refine own_base (base := w1.heap.size) ?_ (by omega)
    repeat (first | (with_reducible exact HO.out) | (with_reducible refine ownsRow_setCell_below ?_ (by simp; omega) _) | (with_reducible refine row_drew ?_))
  · repeat (first | (with_reducible exact hB) | (with_reducible refine bset ?_ _ _ (by omega) _) | (with_reducible refine Below.drew ?_))
theorem do_any (k x n q : Int) (hk : U8 k) (hx : U8 x) (hn : U8 n) (hq : U8 q) (a b c : Int) (v : Value) (l : List Int) (w : World) (h : Ints w v l) (hbig : l.length * 8 ≤ 140737488351232) (R : Lg) (hR : lDo ⟨a, b, c, l⟩ k x n q = R) :
    Calls Try.prog 27 #[dv k x n q, lv a b c v] w fun e w' => ∃ v', e = .returned (lv R.scanned R.spent R.pool v') ∧ OwnB w.heap.size w' v' R.bal ∧ Below w.heap.size w w' := by
  have h4 : k % 4 = 0 ∨ k % 4 = 1 ∨ k % 4 = 2 ∨ k % 4 = 3 := by omega
  unfold lDo at hR
  rcases h4 with h4 | h4 | h4 | h4
  · exact do_0 k x n q hk hx hn hq h4 a b c v l w h hbig R (by rw [if_pos (.inl h4)] at hR; exact hR)
  · exact do_1 k x n q hk hx hn hq h4 a b c v l w h hbig R (by rw [if_pos (.inr h4)] at hR; exact hR)
  · exact do_2 k x n q hk hx hn hq h4 a b c v l w h hbig R (by rw [if_neg (by omega), if_pos h4] at hR; exact hR)
  · exact do_3 k x n q hk hx hn hq h4 a b c v l w h hbig R (by rw [if_neg (by omega), if_neg (by omega)] at hR; exact hR)
end Go.Proofs.Ytgbkphgclpgppaa
