/- HeapTwice: for any heap, two places and two values: puts at unlike places may change places; at one place the last one stands. No condition beside the listed tables, which the card ties to the text. -/
import Derived.Test.YtnbbjkikplfpoaaDoorHeapTied
import Derived.Test.YtnbbjkikplfpoaaDoorQuietB
import Derived.Test.YtnbbjkikplfpoaaDoorHeapTwiceP
namespace Go.Proofs.YtnbbjkikplfpoaaDoor.lawHeapTwice
open Go.RowKit Go.WideShapes Go.ChangeShapes Go.ChangeAt Go.Shelf Go.Proofs Go.Proofs.YtnbbjkikplfpoaaDoor

set_option maxRecDepth 100000 in
set_option maxHeartbeats 8000000 in
theorem walk_like (n : Int) (vh : Value) (ls : Rws) (o s p q v x a y m k : Int) (w : World) (hh : Grid w vh ls) (hf : Fit ls) (ho : 0 ≤ o ∧ o ≤ 255) (hs : 0 ≤ s ∧ s ≤ 255) (hpp : 0 ≤ p ∧ p ≤ 255) (hqq : 0 ≤ q ∧ q ≤ 255) (hvv : 0 ≤ v ∧ v ≤ 255) (hxx : 0 ≤ x ∧ x ≤ 255) (hE : EnvH w) (ea : o % 6 = a) (eb : p % 6 = a) (ey : s % 3 = y) (ez : q % 3 = y) (em : v % 4 = m) (ek : x % 4 = k) :
    Calls Tryd.prog 8 #[hv n vh, .int .u8 o, .int .u8 s, .int .u8 p, .int .u8 q, .int .u8 v, .int .u8 x] w fun e w' => e = .returned (.bool true) ∧ Below w.heap.size w w' := by
  have GH := hide hh
  obtain ⟨A, c, rfl, h1, h2⟩ := hh.form
  unfold maxLen at h2
  obtain ⟨L, hL⟩ : ∃ L, ls.length = L := ⟨_, rfl⟩
  rw [hL] at GH h1 ⊢
  obtain ⟨R1, hR1⟩ : ∃ R, putF ls (a + 1) y m = R := ⟨_, rfl⟩
  obtain ⟨R, hR⟩ : ∃ R, putF R1 (a + 1) y k = R := ⟨_, rfl⟩
  obtain ⟨Q1, hQ1⟩ : ∃ R, putF ls (a + 1) y k = R := ⟨_, rfl⟩
  obtain ⟨Q, hQ⟩ : ∃ R, putF Q1 (a + 1) y m = R := ⟨_, rfl⟩
  obtain ⟨ok, hok⟩ : ∃ r, putOk Q1 (a + 1) y m = r := ⟨_, rfl⟩
  have hlast := hide (show putF R (a + 1) y m = Q by rw [← hR, ← hR1, ← hQ, ← hQ1]; exact put_thrice ls _ _ _ _)
  have hL1 := hide (show R1.length = L by rw [← hR1, putF_len]; exact hL)
  have hLq := hide (show Q1.length = L by rw [← hQ1, putF_len]; exact hL)
  have hLr := hide (show R.length = L by rw [← hR, putF_len]; exact hL1.out)
  have hF1 := hide (show Fit R1 from hR1 ▸ fit_set hf _ _ _)
  have hFq := hide (show Fit Q1 from hQ1 ▸ fit_set hf _ _ _)
  have hFr := hide (show Fit R from hR ▸ fit_set hF1.out _ _ _)
  have hsl := hide (show sameF n Q n Q = true by unfold sameF; simp)
  have hL := hide hL
  have hR1 := hide hR1
  have hR := hide hR
  have hQ1 := hide hQ1
  have hQ := hide hQ
  have hok := hide hok
  have hF := hide hf
  have HE := hide hE
  have hB : Below w.heap.size w w := Below.refl _ _
  clear hh hf hE
  obtain ⟨wp0_, ep0_, hbp0_, hltp0_, -, x0p_, y0p_⟩ := box1 w (.int .i64 n) (.slice A L c) 24
  have HEP0_ := hide ep0_
  clear ep0_
  have GH := hide (GH.out.below hbp0_)
  have HE := hide (HE.out.below hbp0_)
  have hB := bcall hB hbp0_
  go_enter Tryd.func8, Tryd.ntmps8
  go_wp2_with fail
  rw [HEP0_.out]
  (with_reducible refine (examples_any _ HE.out).mono ?_)
  rintro e w0_ ⟨rfl, hb0_⟩
  have x0p_ := keepc hb0_ x0p_
  have y0p_ := keepc hb0_ y0p_
  have GH := hide (GH.out.below hb0_)
  have hB := bcall hB hb0_
  go_wp2_with fail
  (with_reducible refine (Put_c n _ ls _ _ _ _ GH.out hF.out L hL.out R1 hR1.out _ rfl).mono ?_)
  rintro e w1_ ⟨A1_, c1_, rfl, p1_, q1_, GA, hb1_⟩
  have x0p_ := keepc hb1_ x0p_
  have y0p_ := keepc hb1_ y0p_
  have GH := hide (GH.out.below hb1_)
  have hB := bcall hB hb1_
  have GA := hide GA.out.grid
  obtain ⟨wb1_, eb1_, hbb1_, hlt1_, -, x1_, y1_⟩ := box1 w1_ (.int .i64 n) (.slice A1_ L c1_) 24
  have HEB1_ := hide eb1_
  clear eb1_
  have x0p_a := fun o => keepc (bal w1_ o) x0p_
  have y0p_a := fun o => keepc (bal w1_ o) y0p_
  have x0p_A1 := x0p_
  have y0p_A1 := y0p_
  have GHA1 := GH
  have GAA1 := GA
  have hBA1 := hB
  have hbbA1 := hbb1_
  have f1_ := box_soft HEB1_.out 0
  have g1_ := box_soft HEB1_.out 1
  have x0p_ := keepc hbb1_ x0p_
  have y0p_ := keepc hbb1_ y0p_
  have GH := hide (GH.out.below hbb1_)
  have GA := hide (GA.out.below hbb1_)
  have hB := bcall hB hbb1_
  go_wp2_with fail
  rw [HEB1_.out]
  clear x0p_a y0p_a
  (with_reducible refine (Put_c n _ R1 _ _ _ _ GA.out hF1.out L hL1.out R hR.out _ rfl).mono ?_)
  rintro e w2_ ⟨A2_, c2_, rfl, p2_, q2_, GB, hb2_⟩
  have hc2_ := bcall hbbA1 hb2_
  have f1_ := keepf hb2_ x1_ f1_
  have g1_ := keepf hb2_ y1_ g1_
  have x1_ := keepc hb2_ x1_
  have y1_ := keepc hb2_ y1_
  have x0p_ := keepc hc2_ x0p_A1
  have x0p_l : w.heap.size ≠ w1_.heap.size := Nat.ne_of_lt (World.block_lt_of_cell? _ _ x0p_A1)
  have x0p_lr := x0p_l.symm
  have y0p_ := keepc hc2_ y0p_A1
  have y0p_l : w.heap.size ≠ w1_.heap.size := Nat.ne_of_lt (World.block_lt_of_cell? _ _ y0p_A1)
  have y0p_lr := y0p_l.symm
  obtain ⟨ws2_, es2_, xs2_, ys2_, fs2_, gs2_, hst2_, -⟩ := box_store (n := .int .i64 n) (v := .slice A2_ L c2_) x1_ y1_ f1_ g1_
  have HES2_ := hide es2_
  clear es2_
  have hk2_ := hc2_.trans hst2_
  have GH := hide (GHA1.out.below hk2_)
  have GA := hide (GAA1.out.below hk2_)
  have hB := bcall hBA1 hk2_
  have GB := hide (show OwnR wb1_.heap.size ws2_ (.slice A2_ L c2_) R by rw [← HES2_.out]; exact ((GB.out.setCell_below hlt1_ _).setCell_below hlt1_ _))
  have GB := hide GB.out.grid
  go_wp2_with fail
  rw [HES2_.out]
  have x0p_ := keepc hk2_ x0p_A1
  clear x0p_l x0p_lr
  have y0p_ := keepc hk2_ y0p_A1
  clear y0p_l y0p_lr
  have x1_ := xs2_
  have y1_ := ys2_
  clear xs2_ ys2_ fs2_ gs2_ f1_ g1_
  (with_reducible refine (Put_c n _ ls _ _ _ _ GH.out hF.out L hL.out Q1 hQ1.out _ rfl).mono ?_)
  rintro e w3_ ⟨A3_, c3_, rfl, p3_, q3_, GC, hb3_⟩
  have x0p_ := keepc hb3_ x0p_
  have y0p_ := keepc hb3_ y0p_
  have x1_ := keepc hb3_ x1_
  have y1_ := keepc hb3_ y1_
  have GH := hide (GH.out.below hb3_)
  have GB := hide (GB.out.below hb3_)
  have hB := bcall hB hb3_
  have GC := hide GC.out.grid
  obtain ⟨wb3_, eb3_, hbb3_, hlt3_, -, x3_, y3_⟩ := box1 w3_ (.int .i64 n) (.slice A3_ L c3_) 24
  have HEB3_ := hide eb3_
  clear eb3_
  have x0p_a := fun o => keepc (bal w3_ o) x0p_
  have y0p_a := fun o => keepc (bal w3_ o) y0p_
  have x1_a := fun o => keepc (bal w3_ o) x1_
  have y1_a := fun o => keepc (bal w3_ o) y1_
  have x0p_A3 := x0p_
  have y0p_A3 := y0p_
  have x1_A3 := x1_
  have y1_A3 := y1_
  have GHA3 := GH
  have GBA3 := GB
  have GCA3 := GC
  have hBA3 := hB
  have hbbA3 := hbb3_
  have f3_ := box_soft HEB3_.out 0
  have g3_ := box_soft HEB3_.out 1
  have x0p_ := keepc hbb3_ x0p_
  have y0p_ := keepc hbb3_ y0p_
  have x1_ := keepc hbb3_ x1_
  have y1_ := keepc hbb3_ y1_
  have GH := hide (GH.out.below hbb3_)
  have GB := hide (GB.out.below hbb3_)
  have GC := hide (GC.out.below hbb3_)
  have hB := bcall hB hbb3_
  go_wp2_with fail
  rw [HEB3_.out]
  clear x0p_a y0p_a x1_a y1_a
  (with_reducible refine (Put_c n _ Q1 _ _ _ _ GC.out hFq.out L hLq.out Q hQ.out ok hok.out).mono ?_)
  rintro e w4_ ⟨A4_, c4_, rfl, p4_, q4_, GD, hb4_⟩
  have hc4_ := bcall hbbA3 hb4_
  have f3_ := keepf hb4_ x3_ f3_
  have g3_ := keepf hb4_ y3_ g3_
  have x3_ := keepc hb4_ x3_
  have y3_ := keepc hb4_ y3_
  have x0p_ := keepc hc4_ x0p_A3
  have x0p_l : w.heap.size ≠ w3_.heap.size := Nat.ne_of_lt (World.block_lt_of_cell? _ _ x0p_A3)
  have x0p_lr := x0p_l.symm
  have y0p_ := keepc hc4_ y0p_A3
  have y0p_l : w.heap.size ≠ w3_.heap.size := Nat.ne_of_lt (World.block_lt_of_cell? _ _ y0p_A3)
  have y0p_lr := y0p_l.symm
  have x1_ := keepc hc4_ x1_A3
  have x1_l : w1_.heap.size ≠ w3_.heap.size := Nat.ne_of_lt (World.block_lt_of_cell? _ _ x1_A3)
  have x1_lr := x1_l.symm
  have y1_ := keepc hc4_ y1_A3
  have y1_l : w1_.heap.size ≠ w3_.heap.size := Nat.ne_of_lt (World.block_lt_of_cell? _ _ y1_A3)
  have y1_lr := y1_l.symm
  obtain ⟨ws4_, es4_, xs4_, ys4_, fs4_, gs4_, hst4_, -⟩ := box_store (n := .int .i64 n) (v := .slice A4_ L c4_) x3_ y3_ f3_ g3_
  have HES4_ := hide es4_
  clear es4_
  have hk4_ := hc4_.trans hst4_
  have GH := hide (GHA3.out.below hk4_)
  have GB := hide (GBA3.out.below hk4_)
  have GC := hide (GCA3.out.below hk4_)
  have hB := bcall hBA3 hk4_
  have GD := hide (show OwnR wb3_.heap.size ws4_ (.slice A4_ L c4_) Q by rw [← HES4_.out]; exact ((GD.out.setCell_below hlt3_ _).setCell_below hlt3_ _))
  have GD := hide GD.out.grid
  go_wp2_with fail
  rw [HES4_.out]
  have x0p_ := keepc hk4_ x0p_A3
  clear x0p_l x0p_lr
  have y0p_ := keepc hk4_ y0p_A3
  clear y0p_l y0p_lr
  have x1_ := keepc hk4_ x1_A3
  clear x1_l x1_lr
  have y1_ := keepc hk4_ y1_A3
  clear y1_l y1_lr
  have x3_ := xs4_
  have y3_ := ys4_
  clear xs4_ ys4_ fs4_ gs4_ f3_ g3_
  (with_reducible refine (Put_c n _ R _ _ _ _ GB.out hFr.out L hLr.out Q hlast.out _ rfl).mono ?_)
  rintro e w5_ ⟨A5_, c5_, rfl, p5_, q5_, GE, hb5_⟩
  have x0p_ := keepc hb5_ x0p_
  have y0p_ := keepc hb5_ y0p_
  have x1_ := keepc hb5_ x1_
  have y1_ := keepc hb5_ y1_
  have x3_ := keepc hb5_ x3_
  have y3_ := keepc hb5_ y3_
  have GH := hide (GH.out.below hb5_)
  have GB := hide (GB.out.below hb5_)
  have GD := hide (GD.out.below hb5_)
  have hB := bcall hB hb5_
  have GE := hide GE.out.grid
  obtain ⟨wb5_, eb5_, hbb5_, hlt5_, -, x5_, y5_⟩ := box1 w5_ (.int .i64 n) (.slice A5_ L c5_) 24
  have HEB5_ := hide eb5_
  clear eb5_
  have x0p_a := fun o => keepc (bal w5_ o) x0p_
  have y0p_a := fun o => keepc (bal w5_ o) y0p_
  have x1_a := fun o => keepc (bal w5_ o) x1_
  have y1_a := fun o => keepc (bal w5_ o) y1_
  have x3_a := fun o => keepc (bal w5_ o) x3_
  have y3_a := fun o => keepc (bal w5_ o) y3_
  have x0p_A5 := x0p_
  have y0p_A5 := y0p_
  have x1_A5 := x1_
  have y1_A5 := y1_
  have x3_A5 := x3_
  have y3_A5 := y3_
  have GHA5 := GH
  have GBA5 := GB
  have GDA5 := GD
  have GEA5 := GE
  have hBA5 := hB
  have hbbA5 := hbb5_
  have f5_ := box_soft HEB5_.out 0
  have g5_ := box_soft HEB5_.out 1
  have x0p_ := keepc hbb5_ x0p_
  have y0p_ := keepc hbb5_ y0p_
  have x1_ := keepc hbb5_ x1_
  have y1_ := keepc hbb5_ y1_
  have x3_ := keepc hbb5_ x3_
  have y3_ := keepc hbb5_ y3_
  have GH := hide (GH.out.below hbb5_)
  have GB := hide (GB.out.below hbb5_)
  have GD := hide (GD.out.below hbb5_)
  have GE := hide (GE.out.below hbb5_)
  have hB := bcall hB hbb5_
  go_wp2_with fail
  rw [HEB5_.out]
  clear x0p_a y0p_a x1_a y1_a x3_a y3_a
  (with_reducible refine (Same_c n n _ _ Q Q _ GE.out GD.out true hsl.out).mono ?_)
  rintro e w6_ ⟨rfl, hb6_⟩
  have x0p_ := keepc hb6_ x0p_
  have y0p_ := keepc hb6_ y0p_
  have x1_ := keepc hb6_ x1_
  have y1_ := keepc hb6_ y1_
  have x3_ := keepc hb6_ x3_
  have y3_ := keepc hb6_ y3_
  have x5_ := keepc hb6_ x5_
  have y5_ := keepc hb6_ y5_
  have GH := hide (GH.out.below hb6_)
  have GB := hide (GB.out.below hb6_)
  have GD := hide (GD.out.below hb6_)
  have GE := hide (GE.out.below hb6_)
  have hB := bcall hB hb6_
  go_wp2
  go_ret
  exact ⟨rfl, hB⟩


set_option maxRecDepth 100000 in
set_option maxHeartbeats 8000000 in
theorem walk_off1 (n : Int) (vh : Value) (ls : Rws) (o s p q v x a b y z m k : Int) (w : World) (hh : Grid w vh ls) (hf : Fit ls) (ho : 0 ≤ o ∧ o ≤ 255) (hs : 0 ≤ s ∧ s ≤ 255) (hpp : 0 ≤ p ∧ p ≤ 255) (hqq : 0 ≤ q ∧ q ≤ 255) (hvv : 0 ≤ v ∧ v ≤ 255) (hxx : 0 ≤ x ∧ x ≤ 255) (hE : EnvH w) (ea : o % 6 = a) (eb : p % 6 = b) (ey : s % 3 = y) (ez : q % 3 = z) (em : v % 4 = m) (ek : x % 4 = k) (hne : (a == b) = false) :
    Calls Tryd.prog 8 #[hv n vh, .int .u8 o, .int .u8 s, .int .u8 p, .int .u8 q, .int .u8 v, .int .u8 x] w fun e w' => e = .returned (.bool true) ∧ Below w.heap.size w w' := by
  have GH := hide hh
  obtain ⟨A, c, rfl, h1, h2⟩ := hh.form
  unfold maxLen at h2
  obtain ⟨L, hL⟩ : ∃ L, ls.length = L := ⟨_, rfl⟩
  rw [hL] at GH h1 ⊢
  obtain ⟨R1, hR1⟩ : ∃ R, putF ls (a + 1) y m = R := ⟨_, rfl⟩
  obtain ⟨R, hR⟩ : ∃ R, putF R1 (b + 1) z k = R := ⟨_, rfl⟩
  obtain ⟨Q1, hQ1⟩ : ∃ R, putF ls (b + 1) z k = R := ⟨_, rfl⟩
  obtain ⟨Q, hQ⟩ : ∃ R, putF Q1 (a + 1) y m = R := ⟨_, rfl⟩
  obtain ⟨ok, hok⟩ : ∃ r, putOk Q1 (a + 1) y m = r := ⟨_, rfl⟩
  have hRQ : R = Q := by rw [← hR, ← hR1, ← hQ, ← hQ1]; exact put_comm ls (fun h => by rw [show a = b by omega, beq_self_eq_true] at hne; cases hne)
  have hlast := hide (show putF R (a + 1) y m = Q by rw [hRQ, ← hQ]; exact put_again Q1 _ _ _)
  have hsr := hide (show sameF n R n Q = true by rw [hRQ]; unfold sameF; simp)
  clear hRQ
  have hL1 := hide (show R1.length = L by rw [← hR1, putF_len]; exact hL)
  have hLq := hide (show Q1.length = L by rw [← hQ1, putF_len]; exact hL)
  have hLr := hide (show R.length = L by rw [← hR, putF_len]; exact hL1.out)
  have hF1 := hide (show Fit R1 from hR1 ▸ fit_set hf _ _ _)
  have hFq := hide (show Fit Q1 from hQ1 ▸ fit_set hf _ _ _)
  have hFr := hide (show Fit R from hR ▸ fit_set hF1.out _ _ _)
  have hsl := hide (show sameF n Q n Q = true by unfold sameF; simp)
  have hL := hide hL
  have hR1 := hide hR1
  have hR := hide hR
  have hQ1 := hide hQ1
  have hQ := hide hQ
  have hok := hide hok
  have hF := hide hf
  have HE := hide hE
  have hB : Below w.heap.size w w := Below.refl _ _
  clear hh hf hE
  obtain ⟨wp0_, ep0_, hbp0_, hltp0_, -, x0p_, y0p_⟩ := box1 w (.int .i64 n) (.slice A L c) 24
  have HEP0_ := hide ep0_
  clear ep0_
  have GH := hide (GH.out.below hbp0_)
  have HE := hide (HE.out.below hbp0_)
  have hB := bcall hB hbp0_
  go_enter Tryd.func8, Tryd.ntmps8
  go_wp2_with fail
  rw [HEP0_.out]
  (with_reducible refine (examples_any _ HE.out).mono ?_)
  rintro e w0_ ⟨rfl, hb0_⟩
  have x0p_ := keepc hb0_ x0p_
  have y0p_ := keepc hb0_ y0p_
  have GH := hide (GH.out.below hb0_)
  have hB := bcall hB hb0_
  go_wp2_with fail
  (with_reducible refine (Put_c n _ ls _ _ _ _ GH.out hF.out L hL.out R1 hR1.out _ rfl).mono ?_)
  rintro e w1_ ⟨A1_, c1_, rfl, p1_, q1_, GA, hb1_⟩
  have x0p_ := keepc hb1_ x0p_
  have y0p_ := keepc hb1_ y0p_
  have GH := hide (GH.out.below hb1_)
  have hB := bcall hB hb1_
  have GA := hide GA.out.grid
  obtain ⟨wb1_, eb1_, hbb1_, hlt1_, -, x1_, y1_⟩ := box1 w1_ (.int .i64 n) (.slice A1_ L c1_) 24
  have HEB1_ := hide eb1_
  clear eb1_
  have x0p_a := fun o => keepc (bal w1_ o) x0p_
  have y0p_a := fun o => keepc (bal w1_ o) y0p_
  have x0p_A1 := x0p_
  have y0p_A1 := y0p_
  have GHA1 := GH
  have GAA1 := GA
  have hBA1 := hB
  have hbbA1 := hbb1_
  have f1_ := box_soft HEB1_.out 0
  have g1_ := box_soft HEB1_.out 1
  have x0p_ := keepc hbb1_ x0p_
  have y0p_ := keepc hbb1_ y0p_
  have GH := hide (GH.out.below hbb1_)
  have GA := hide (GA.out.below hbb1_)
  have hB := bcall hB hbb1_
  go_wp2_with fail
  rw [HEB1_.out]
  clear x0p_a y0p_a
  (with_reducible refine (Put_c n _ R1 _ _ _ _ GA.out hF1.out L hL1.out R hR.out _ rfl).mono ?_)
  rintro e w2_ ⟨A2_, c2_, rfl, p2_, q2_, GB, hb2_⟩
  have hc2_ := bcall hbbA1 hb2_
  have f1_ := keepf hb2_ x1_ f1_
  have g1_ := keepf hb2_ y1_ g1_
  have x1_ := keepc hb2_ x1_
  have y1_ := keepc hb2_ y1_
  have x0p_ := keepc hc2_ x0p_A1
  have x0p_l : w.heap.size ≠ w1_.heap.size := Nat.ne_of_lt (World.block_lt_of_cell? _ _ x0p_A1)
  have x0p_lr := x0p_l.symm
  have y0p_ := keepc hc2_ y0p_A1
  have y0p_l : w.heap.size ≠ w1_.heap.size := Nat.ne_of_lt (World.block_lt_of_cell? _ _ y0p_A1)
  have y0p_lr := y0p_l.symm
  obtain ⟨ws2_, es2_, xs2_, ys2_, fs2_, gs2_, hst2_, -⟩ := box_store (n := .int .i64 n) (v := .slice A2_ L c2_) x1_ y1_ f1_ g1_
  have HES2_ := hide es2_
  clear es2_
  have hk2_ := hc2_.trans hst2_
  have GH := hide (GHA1.out.below hk2_)
  have GA := hide (GAA1.out.below hk2_)
  have hB := bcall hBA1 hk2_
  have GB := hide (show OwnR wb1_.heap.size ws2_ (.slice A2_ L c2_) R by rw [← HES2_.out]; exact ((GB.out.setCell_below hlt1_ _).setCell_below hlt1_ _))
  have GB := hide GB.out.grid
  go_wp2_with fail
  rw [HES2_.out]
  have x0p_ := keepc hk2_ x0p_A1
  clear x0p_l x0p_lr
  have y0p_ := keepc hk2_ y0p_A1
  clear y0p_l y0p_lr
  have x1_ := xs2_
  have y1_ := ys2_
  clear xs2_ ys2_ fs2_ gs2_ f1_ g1_
  (with_reducible refine (Put_c n _ ls _ _ _ _ GH.out hF.out L hL.out Q1 hQ1.out _ rfl).mono ?_)
  rintro e w3_ ⟨A3_, c3_, rfl, p3_, q3_, GC, hb3_⟩
  have x0p_ := keepc hb3_ x0p_
  have y0p_ := keepc hb3_ y0p_
  have x1_ := keepc hb3_ x1_
  have y1_ := keepc hb3_ y1_
  have GH := hide (GH.out.below hb3_)
  have GB := hide (GB.out.below hb3_)
  have hB := bcall hB hb3_
  have GC := hide GC.out.grid
  obtain ⟨wb3_, eb3_, hbb3_, hlt3_, -, x3_, y3_⟩ := box1 w3_ (.int .i64 n) (.slice A3_ L c3_) 24
  have HEB3_ := hide eb3_
  clear eb3_
  have x0p_a := fun o => keepc (bal w3_ o) x0p_
  have y0p_a := fun o => keepc (bal w3_ o) y0p_
  have x1_a := fun o => keepc (bal w3_ o) x1_
  have y1_a := fun o => keepc (bal w3_ o) y1_
  have x0p_A3 := x0p_
  have y0p_A3 := y0p_
  have x1_A3 := x1_
  have y1_A3 := y1_
  have GHA3 := GH
  have GBA3 := GB
  have GCA3 := GC
  have hBA3 := hB
  have hbbA3 := hbb3_
  have f3_ := box_soft HEB3_.out 0
  have g3_ := box_soft HEB3_.out 1
  have x0p_ := keepc hbb3_ x0p_
  have y0p_ := keepc hbb3_ y0p_
  have x1_ := keepc hbb3_ x1_
  have y1_ := keepc hbb3_ y1_
  have GH := hide (GH.out.below hbb3_)
  have GB := hide (GB.out.below hbb3_)
  have GC := hide (GC.out.below hbb3_)
  have hB := bcall hB hbb3_
  go_wp2_with fail
  rw [HEB3_.out]
  clear x0p_a y0p_a x1_a y1_a
  (with_reducible refine (Put_c n _ Q1 _ _ _ _ GC.out hFq.out L hLq.out Q hQ.out ok hok.out).mono ?_)
  rintro e w4_ ⟨A4_, c4_, rfl, p4_, q4_, GD, hb4_⟩
  have hc4_ := bcall hbbA3 hb4_
  have f3_ := keepf hb4_ x3_ f3_
  have g3_ := keepf hb4_ y3_ g3_
  have x3_ := keepc hb4_ x3_
  have y3_ := keepc hb4_ y3_
  have x0p_ := keepc hc4_ x0p_A3
  have x0p_l : w.heap.size ≠ w3_.heap.size := Nat.ne_of_lt (World.block_lt_of_cell? _ _ x0p_A3)
  have x0p_lr := x0p_l.symm
  have y0p_ := keepc hc4_ y0p_A3
  have y0p_l : w.heap.size ≠ w3_.heap.size := Nat.ne_of_lt (World.block_lt_of_cell? _ _ y0p_A3)
  have y0p_lr := y0p_l.symm
  have x1_ := keepc hc4_ x1_A3
  have x1_l : w1_.heap.size ≠ w3_.heap.size := Nat.ne_of_lt (World.block_lt_of_cell? _ _ x1_A3)
  have x1_lr := x1_l.symm
  have y1_ := keepc hc4_ y1_A3
  have y1_l : w1_.heap.size ≠ w3_.heap.size := Nat.ne_of_lt (World.block_lt_of_cell? _ _ y1_A3)
  have y1_lr := y1_l.symm
  obtain ⟨ws4_, es4_, xs4_, ys4_, fs4_, gs4_, hst4_, -⟩ := box_store (n := .int .i64 n) (v := .slice A4_ L c4_) x3_ y3_ f3_ g3_
  have HES4_ := hide es4_
  clear es4_
  have hk4_ := hc4_.trans hst4_
  have GH := hide (GHA3.out.below hk4_)
  have GB := hide (GBA3.out.below hk4_)
  have GC := hide (GCA3.out.below hk4_)
  have hB := bcall hBA3 hk4_
  have GD := hide (show OwnR wb3_.heap.size ws4_ (.slice A4_ L c4_) Q by rw [← HES4_.out]; exact ((GD.out.setCell_below hlt3_ _).setCell_below hlt3_ _))
  have GD := hide GD.out.grid
  go_wp2_with fail
  rw [HES4_.out]
  have x0p_ := keepc hk4_ x0p_A3
  clear x0p_l x0p_lr
  have y0p_ := keepc hk4_ y0p_A3
  clear y0p_l y0p_lr
  have x1_ := keepc hk4_ x1_A3
  clear x1_l x1_lr
  have y1_ := keepc hk4_ y1_A3
  clear y1_l y1_lr
  have x3_ := xs4_
  have y3_ := ys4_
  clear xs4_ ys4_ fs4_ gs4_ f3_ g3_
  (with_reducible refine (Put_c n _ R _ _ _ _ GB.out hFr.out L hLr.out Q hlast.out _ rfl).mono ?_)
  rintro e w5_ ⟨A5_, c5_, rfl, p5_, q5_, GE, hb5_⟩
  have x0p_ := keepc hb5_ x0p_
  have y0p_ := keepc hb5_ y0p_
  have x1_ := keepc hb5_ x1_
  have y1_ := keepc hb5_ y1_
  have x3_ := keepc hb5_ x3_
  have y3_ := keepc hb5_ y3_
  have GH := hide (GH.out.below hb5_)
  have GB := hide (GB.out.below hb5_)
  have GD := hide (GD.out.below hb5_)
  have hB := bcall hB hb5_
  have GE := hide GE.out.grid
  obtain ⟨wb5_, eb5_, hbb5_, hlt5_, -, x5_, y5_⟩ := box1 w5_ (.int .i64 n) (.slice A5_ L c5_) 24
  have HEB5_ := hide eb5_
  clear eb5_
  have x0p_a := fun o => keepc (bal w5_ o) x0p_
  have y0p_a := fun o => keepc (bal w5_ o) y0p_
  have x1_a := fun o => keepc (bal w5_ o) x1_
  have y1_a := fun o => keepc (bal w5_ o) y1_
  have x3_a := fun o => keepc (bal w5_ o) x3_
  have y3_a := fun o => keepc (bal w5_ o) y3_
  have x0p_A5 := x0p_
  have y0p_A5 := y0p_
  have x1_A5 := x1_
  have y1_A5 := y1_
  have x3_A5 := x3_
  have y3_A5 := y3_
  have GHA5 := GH
  have GBA5 := GB
  have GDA5 := GD
  have GEA5 := GE
  have hBA5 := hB
  have hbbA5 := hbb5_
  have f5_ := box_soft HEB5_.out 0
  have g5_ := box_soft HEB5_.out 1
  have x0p_ := keepc hbb5_ x0p_
  have y0p_ := keepc hbb5_ y0p_
  have x1_ := keepc hbb5_ x1_
  have y1_ := keepc hbb5_ y1_
  have x3_ := keepc hbb5_ x3_
  have y3_ := keepc hbb5_ y3_
  have GH := hide (GH.out.below hbb5_)
  have GB := hide (GB.out.below hbb5_)
  have GD := hide (GD.out.below hbb5_)
  have GE := hide (GE.out.below hbb5_)
  have hB := bcall hB hbb5_
  cases ok with
  | false =>
    go_wp2_with fail
    rw [HEB5_.out]
    clear x0p_a y0p_a x1_a y1_a x3_a y3_a
    (with_reducible refine (Same_c n n _ _ R Q _ GB.out GD.out true hsr.out).mono ?_)
    rintro e w6_ ⟨rfl, hb6_⟩
    have x0p_ := keepc hb6_ x0p_
    have y0p_ := keepc hb6_ y0p_
    have x1_ := keepc hb6_ x1_
    have y1_ := keepc hb6_ y1_
    have x3_ := keepc hb6_ x3_
    have y3_ := keepc hb6_ y3_
    have x5_ := keepc hb6_ x5_
    have y5_ := keepc hb6_ y5_
    have GH := hide (GH.out.below hb6_)
    have GB := hide (GB.out.below hb6_)
    have GD := hide (GD.out.below hb6_)
    have GE := hide (GE.out.below hb6_)
    have hB := bcall hB hb6_
    go_wp2
    go_ret
    exact ⟨rfl, hB⟩
  | true =>
    go_wp2_with fail
    rw [HEB5_.out]
    clear x0p_a y0p_a x1_a y1_a x3_a y3_a
    (with_reducible refine (Same_c n n _ _ R Q _ GB.out GD.out true hsr.out).mono ?_)
    rintro e w6_ ⟨rfl, hb6_⟩
    have x0p_ := keepc hb6_ x0p_
    have y0p_ := keepc hb6_ y0p_
    have x1_ := keepc hb6_ x1_
    have y1_ := keepc hb6_ y1_
    have x3_ := keepc hb6_ x3_
    have y3_ := keepc hb6_ y3_
    have x5_ := keepc hb6_ x5_
    have y5_ := keepc hb6_ y5_
    have GH := hide (GH.out.below hb6_)
    have GB := hide (GB.out.below hb6_)
    have GD := hide (GD.out.below hb6_)
    have GE := hide (GE.out.below hb6_)
    have hB := bcall hB hb6_
    go_wp2_with fail
    (with_reducible refine (Same_c n n _ _ Q Q _ GE.out GD.out true hsl.out).mono ?_)
    rintro e w7_ ⟨rfl, hb7_⟩
    have x0p_ := keepc hb7_ x0p_
    have y0p_ := keepc hb7_ y0p_
    have x1_ := keepc hb7_ x1_
    have y1_ := keepc hb7_ y1_
    have x3_ := keepc hb7_ x3_
    have y3_ := keepc hb7_ y3_
    have x5_ := keepc hb7_ x5_
    have y5_ := keepc hb7_ y5_
    have GH := hide (GH.out.below hb7_)
    have GB := hide (GB.out.below hb7_)
    have GD := hide (GD.out.below hb7_)
    have GE := hide (GE.out.below hb7_)
    have hB := bcall hB hb7_
    go_wp2
    go_ret
    exact ⟨rfl, hB⟩


set_option maxRecDepth 100000 in
set_option maxHeartbeats 8000000 in
theorem walk_off2 (n : Int) (vh : Value) (ls : Rws) (o s p q v x a y z m k : Int) (w : World) (hh : Grid w vh ls) (hf : Fit ls) (ho : 0 ≤ o ∧ o ≤ 255) (hs : 0 ≤ s ∧ s ≤ 255) (hpp : 0 ≤ p ∧ p ≤ 255) (hqq : 0 ≤ q ∧ q ≤ 255) (hvv : 0 ≤ v ∧ v ≤ 255) (hxx : 0 ≤ x ∧ x ≤ 255) (hE : EnvH w) (ea : o % 6 = a) (eb : p % 6 = a) (ey : s % 3 = y) (ez : q % 3 = z) (em : v % 4 = m) (ek : x % 4 = k) (hne : (y == z) = false) :
    Calls Tryd.prog 8 #[hv n vh, .int .u8 o, .int .u8 s, .int .u8 p, .int .u8 q, .int .u8 v, .int .u8 x] w fun e w' => e = .returned (.bool true) ∧ Below w.heap.size w w' := by
  have GH := hide hh
  obtain ⟨A, c, rfl, h1, h2⟩ := hh.form
  unfold maxLen at h2
  obtain ⟨L, hL⟩ : ∃ L, ls.length = L := ⟨_, rfl⟩
  rw [hL] at GH h1 ⊢
  obtain ⟨R1, hR1⟩ : ∃ R, putF ls (a + 1) y m = R := ⟨_, rfl⟩
  obtain ⟨R, hR⟩ : ∃ R, putF R1 (a + 1) z k = R := ⟨_, rfl⟩
  obtain ⟨Q1, hQ1⟩ : ∃ R, putF ls (a + 1) z k = R := ⟨_, rfl⟩
  obtain ⟨Q, hQ⟩ : ∃ R, putF Q1 (a + 1) y m = R := ⟨_, rfl⟩
  obtain ⟨ok, hok⟩ : ∃ r, putOk Q1 (a + 1) y m = r := ⟨_, rfl⟩
  have hRQ : R = Q := by rw [← hR, ← hR1, ← hQ, ← hQ1]; exact put_comm ls (fun h => by rw [h.2, beq_self_eq_true] at hne; cases hne)
  have hlast := hide (show putF R (a + 1) y m = Q by rw [hRQ, ← hQ]; exact put_again Q1 _ _ _)
  have hsr := hide (show sameF n R n Q = true by rw [hRQ]; unfold sameF; simp)
  clear hRQ
  have hL1 := hide (show R1.length = L by rw [← hR1, putF_len]; exact hL)
  have hLq := hide (show Q1.length = L by rw [← hQ1, putF_len]; exact hL)
  have hLr := hide (show R.length = L by rw [← hR, putF_len]; exact hL1.out)
  have hF1 := hide (show Fit R1 from hR1 ▸ fit_set hf _ _ _)
  have hFq := hide (show Fit Q1 from hQ1 ▸ fit_set hf _ _ _)
  have hFr := hide (show Fit R from hR ▸ fit_set hF1.out _ _ _)
  have hsl := hide (show sameF n Q n Q = true by unfold sameF; simp)
  have hL := hide hL
  have hR1 := hide hR1
  have hR := hide hR
  have hQ1 := hide hQ1
  have hQ := hide hQ
  have hok := hide hok
  have hF := hide hf
  have HE := hide hE
  have hB : Below w.heap.size w w := Below.refl _ _
  clear hh hf hE
  obtain ⟨wp0_, ep0_, hbp0_, hltp0_, -, x0p_, y0p_⟩ := box1 w (.int .i64 n) (.slice A L c) 24
  have HEP0_ := hide ep0_
  clear ep0_
  have GH := hide (GH.out.below hbp0_)
  have HE := hide (HE.out.below hbp0_)
  have hB := bcall hB hbp0_
  go_enter Tryd.func8, Tryd.ntmps8
  go_wp2_with fail
  rw [HEP0_.out]
  (with_reducible refine (examples_any _ HE.out).mono ?_)
  rintro e w0_ ⟨rfl, hb0_⟩
  have x0p_ := keepc hb0_ x0p_
  have y0p_ := keepc hb0_ y0p_
  have GH := hide (GH.out.below hb0_)
  have hB := bcall hB hb0_
  go_wp2_with fail
  (with_reducible refine (Put_c n _ ls _ _ _ _ GH.out hF.out L hL.out R1 hR1.out _ rfl).mono ?_)
  rintro e w1_ ⟨A1_, c1_, rfl, p1_, q1_, GA, hb1_⟩
  have x0p_ := keepc hb1_ x0p_
  have y0p_ := keepc hb1_ y0p_
  have GH := hide (GH.out.below hb1_)
  have hB := bcall hB hb1_
  have GA := hide GA.out.grid
  obtain ⟨wb1_, eb1_, hbb1_, hlt1_, -, x1_, y1_⟩ := box1 w1_ (.int .i64 n) (.slice A1_ L c1_) 24
  have HEB1_ := hide eb1_
  clear eb1_
  have x0p_a := fun o => keepc (bal w1_ o) x0p_
  have y0p_a := fun o => keepc (bal w1_ o) y0p_
  have x0p_A1 := x0p_
  have y0p_A1 := y0p_
  have GHA1 := GH
  have GAA1 := GA
  have hBA1 := hB
  have hbbA1 := hbb1_
  have f1_ := box_soft HEB1_.out 0
  have g1_ := box_soft HEB1_.out 1
  have x0p_ := keepc hbb1_ x0p_
  have y0p_ := keepc hbb1_ y0p_
  have GH := hide (GH.out.below hbb1_)
  have GA := hide (GA.out.below hbb1_)
  have hB := bcall hB hbb1_
  go_wp2_with fail
  rw [HEB1_.out]
  clear x0p_a y0p_a
  (with_reducible refine (Put_c n _ R1 _ _ _ _ GA.out hF1.out L hL1.out R hR.out _ rfl).mono ?_)
  rintro e w2_ ⟨A2_, c2_, rfl, p2_, q2_, GB, hb2_⟩
  have hc2_ := bcall hbbA1 hb2_
  have f1_ := keepf hb2_ x1_ f1_
  have g1_ := keepf hb2_ y1_ g1_
  have x1_ := keepc hb2_ x1_
  have y1_ := keepc hb2_ y1_
  have x0p_ := keepc hc2_ x0p_A1
  have x0p_l : w.heap.size ≠ w1_.heap.size := Nat.ne_of_lt (World.block_lt_of_cell? _ _ x0p_A1)
  have x0p_lr := x0p_l.symm
  have y0p_ := keepc hc2_ y0p_A1
  have y0p_l : w.heap.size ≠ w1_.heap.size := Nat.ne_of_lt (World.block_lt_of_cell? _ _ y0p_A1)
  have y0p_lr := y0p_l.symm
  obtain ⟨ws2_, es2_, xs2_, ys2_, fs2_, gs2_, hst2_, -⟩ := box_store (n := .int .i64 n) (v := .slice A2_ L c2_) x1_ y1_ f1_ g1_
  have HES2_ := hide es2_
  clear es2_
  have hk2_ := hc2_.trans hst2_
  have GH := hide (GHA1.out.below hk2_)
  have GA := hide (GAA1.out.below hk2_)
  have hB := bcall hBA1 hk2_
  have GB := hide (show OwnR wb1_.heap.size ws2_ (.slice A2_ L c2_) R by rw [← HES2_.out]; exact ((GB.out.setCell_below hlt1_ _).setCell_below hlt1_ _))
  have GB := hide GB.out.grid
  go_wp2_with fail
  rw [HES2_.out]
  have x0p_ := keepc hk2_ x0p_A1
  clear x0p_l x0p_lr
  have y0p_ := keepc hk2_ y0p_A1
  clear y0p_l y0p_lr
  have x1_ := xs2_
  have y1_ := ys2_
  clear xs2_ ys2_ fs2_ gs2_ f1_ g1_
  (with_reducible refine (Put_c n _ ls _ _ _ _ GH.out hF.out L hL.out Q1 hQ1.out _ rfl).mono ?_)
  rintro e w3_ ⟨A3_, c3_, rfl, p3_, q3_, GC, hb3_⟩
  have x0p_ := keepc hb3_ x0p_
  have y0p_ := keepc hb3_ y0p_
  have x1_ := keepc hb3_ x1_
  have y1_ := keepc hb3_ y1_
  have GH := hide (GH.out.below hb3_)
  have GB := hide (GB.out.below hb3_)
  have hB := bcall hB hb3_
  have GC := hide GC.out.grid
  obtain ⟨wb3_, eb3_, hbb3_, hlt3_, -, x3_, y3_⟩ := box1 w3_ (.int .i64 n) (.slice A3_ L c3_) 24
  have HEB3_ := hide eb3_
  clear eb3_
  have x0p_a := fun o => keepc (bal w3_ o) x0p_
  have y0p_a := fun o => keepc (bal w3_ o) y0p_
  have x1_a := fun o => keepc (bal w3_ o) x1_
  have y1_a := fun o => keepc (bal w3_ o) y1_
  have x0p_A3 := x0p_
  have y0p_A3 := y0p_
  have x1_A3 := x1_
  have y1_A3 := y1_
  have GHA3 := GH
  have GBA3 := GB
  have GCA3 := GC
  have hBA3 := hB
  have hbbA3 := hbb3_
  have f3_ := box_soft HEB3_.out 0
  have g3_ := box_soft HEB3_.out 1
  have x0p_ := keepc hbb3_ x0p_
  have y0p_ := keepc hbb3_ y0p_
  have x1_ := keepc hbb3_ x1_
  have y1_ := keepc hbb3_ y1_
  have GH := hide (GH.out.below hbb3_)
  have GB := hide (GB.out.below hbb3_)
  have GC := hide (GC.out.below hbb3_)
  have hB := bcall hB hbb3_
  go_wp2_with fail
  rw [HEB3_.out]
  clear x0p_a y0p_a x1_a y1_a
  (with_reducible refine (Put_c n _ Q1 _ _ _ _ GC.out hFq.out L hLq.out Q hQ.out ok hok.out).mono ?_)
  rintro e w4_ ⟨A4_, c4_, rfl, p4_, q4_, GD, hb4_⟩
  have hc4_ := bcall hbbA3 hb4_
  have f3_ := keepf hb4_ x3_ f3_
  have g3_ := keepf hb4_ y3_ g3_
  have x3_ := keepc hb4_ x3_
  have y3_ := keepc hb4_ y3_
  have x0p_ := keepc hc4_ x0p_A3
  have x0p_l : w.heap.size ≠ w3_.heap.size := Nat.ne_of_lt (World.block_lt_of_cell? _ _ x0p_A3)
  have x0p_lr := x0p_l.symm
  have y0p_ := keepc hc4_ y0p_A3
  have y0p_l : w.heap.size ≠ w3_.heap.size := Nat.ne_of_lt (World.block_lt_of_cell? _ _ y0p_A3)
  have y0p_lr := y0p_l.symm
  have x1_ := keepc hc4_ x1_A3
  have x1_l : w1_.heap.size ≠ w3_.heap.size := Nat.ne_of_lt (World.block_lt_of_cell? _ _ x1_A3)
  have x1_lr := x1_l.symm
  have y1_ := keepc hc4_ y1_A3
  have y1_l : w1_.heap.size ≠ w3_.heap.size := Nat.ne_of_lt (World.block_lt_of_cell? _ _ y1_A3)
  have y1_lr := y1_l.symm
  obtain ⟨ws4_, es4_, xs4_, ys4_, fs4_, gs4_, hst4_, -⟩ := box_store (n := .int .i64 n) (v := .slice A4_ L c4_) x3_ y3_ f3_ g3_
  have HES4_ := hide es4_
  clear es4_
  have hk4_ := hc4_.trans hst4_
  have GH := hide (GHA3.out.below hk4_)
  have GB := hide (GBA3.out.below hk4_)
  have GC := hide (GCA3.out.below hk4_)
  have hB := bcall hBA3 hk4_
  have GD := hide (show OwnR wb3_.heap.size ws4_ (.slice A4_ L c4_) Q by rw [← HES4_.out]; exact ((GD.out.setCell_below hlt3_ _).setCell_below hlt3_ _))
  have GD := hide GD.out.grid
  go_wp2_with fail
  rw [HES4_.out]
  have x0p_ := keepc hk4_ x0p_A3
  clear x0p_l x0p_lr
  have y0p_ := keepc hk4_ y0p_A3
  clear y0p_l y0p_lr
  have x1_ := keepc hk4_ x1_A3
  clear x1_l x1_lr
  have y1_ := keepc hk4_ y1_A3
  clear y1_l y1_lr
  have x3_ := xs4_
  have y3_ := ys4_
  clear xs4_ ys4_ fs4_ gs4_ f3_ g3_
  (with_reducible refine (Put_c n _ R _ _ _ _ GB.out hFr.out L hLr.out Q hlast.out _ rfl).mono ?_)
  rintro e w5_ ⟨A5_, c5_, rfl, p5_, q5_, GE, hb5_⟩
  have x0p_ := keepc hb5_ x0p_
  have y0p_ := keepc hb5_ y0p_
  have x1_ := keepc hb5_ x1_
  have y1_ := keepc hb5_ y1_
  have x3_ := keepc hb5_ x3_
  have y3_ := keepc hb5_ y3_
  have GH := hide (GH.out.below hb5_)
  have GB := hide (GB.out.below hb5_)
  have GD := hide (GD.out.below hb5_)
  have hB := bcall hB hb5_
  have GE := hide GE.out.grid
  obtain ⟨wb5_, eb5_, hbb5_, hlt5_, -, x5_, y5_⟩ := box1 w5_ (.int .i64 n) (.slice A5_ L c5_) 24
  have HEB5_ := hide eb5_
  clear eb5_
  have x0p_a := fun o => keepc (bal w5_ o) x0p_
  have y0p_a := fun o => keepc (bal w5_ o) y0p_
  have x1_a := fun o => keepc (bal w5_ o) x1_
  have y1_a := fun o => keepc (bal w5_ o) y1_
  have x3_a := fun o => keepc (bal w5_ o) x3_
  have y3_a := fun o => keepc (bal w5_ o) y3_
  have x0p_A5 := x0p_
  have y0p_A5 := y0p_
  have x1_A5 := x1_
  have y1_A5 := y1_
  have x3_A5 := x3_
  have y3_A5 := y3_
  have GHA5 := GH
  have GBA5 := GB
  have GDA5 := GD
  have GEA5 := GE
  have hBA5 := hB
  have hbbA5 := hbb5_
  have f5_ := box_soft HEB5_.out 0
  have g5_ := box_soft HEB5_.out 1
  have x0p_ := keepc hbb5_ x0p_
  have y0p_ := keepc hbb5_ y0p_
  have x1_ := keepc hbb5_ x1_
  have y1_ := keepc hbb5_ y1_
  have x3_ := keepc hbb5_ x3_
  have y3_ := keepc hbb5_ y3_
  have GH := hide (GH.out.below hbb5_)
  have GB := hide (GB.out.below hbb5_)
  have GD := hide (GD.out.below hbb5_)
  have GE := hide (GE.out.below hbb5_)
  have hB := bcall hB hbb5_
  cases ok with
  | false =>
    go_wp2_with fail
    rw [HEB5_.out]
    clear x0p_a y0p_a x1_a y1_a x3_a y3_a
    (with_reducible refine (Same_c n n _ _ R Q _ GB.out GD.out true hsr.out).mono ?_)
    rintro e w6_ ⟨rfl, hb6_⟩
    have x0p_ := keepc hb6_ x0p_
    have y0p_ := keepc hb6_ y0p_
    have x1_ := keepc hb6_ x1_
    have y1_ := keepc hb6_ y1_
    have x3_ := keepc hb6_ x3_
    have y3_ := keepc hb6_ y3_
    have x5_ := keepc hb6_ x5_
    have y5_ := keepc hb6_ y5_
    have GH := hide (GH.out.below hb6_)
    have GB := hide (GB.out.below hb6_)
    have GD := hide (GD.out.below hb6_)
    have GE := hide (GE.out.below hb6_)
    have hB := bcall hB hb6_
    go_wp2
    go_ret
    exact ⟨rfl, hB⟩
  | true =>
    go_wp2_with fail
    rw [HEB5_.out]
    clear x0p_a y0p_a x1_a y1_a x3_a y3_a
    (with_reducible refine (Same_c n n _ _ R Q _ GB.out GD.out true hsr.out).mono ?_)
    rintro e w6_ ⟨rfl, hb6_⟩
    have x0p_ := keepc hb6_ x0p_
    have y0p_ := keepc hb6_ y0p_
    have x1_ := keepc hb6_ x1_
    have y1_ := keepc hb6_ y1_
    have x3_ := keepc hb6_ x3_
    have y3_ := keepc hb6_ y3_
    have x5_ := keepc hb6_ x5_
    have y5_ := keepc hb6_ y5_
    have GH := hide (GH.out.below hb6_)
    have GB := hide (GB.out.below hb6_)
    have GD := hide (GD.out.below hb6_)
    have GE := hide (GE.out.below hb6_)
    have hB := bcall hB hb6_
    go_wp2_with fail
    (with_reducible refine (Same_c n n _ _ Q Q _ GE.out GD.out true hsl.out).mono ?_)
    rintro e w7_ ⟨rfl, hb7_⟩
    have x0p_ := keepc hb7_ x0p_
    have y0p_ := keepc hb7_ y0p_
    have x1_ := keepc hb7_ x1_
    have y1_ := keepc hb7_ y1_
    have x3_ := keepc hb7_ x3_
    have y3_ := keepc hb7_ y3_
    have x5_ := keepc hb7_ x5_
    have y5_ := keepc hb7_ y5_
    have GH := hide (GH.out.below hb7_)
    have GB := hide (GB.out.below hb7_)
    have GD := hide (GD.out.below hb7_)
    have GE := hide (GE.out.below hb7_)
    have hB := bcall hB hb7_
    go_wp2
    go_ret
    exact ⟨rfl, hB⟩


theorem walk (n : Int) (vh : Value) (ls : Rws) (o s p q v x : Int) (w : World) (hh : Grid w vh ls) (hf : Fit ls) (ho : 0 ≤ o ∧ o ≤ 255) (hs : 0 ≤ s ∧ s ≤ 255) (hpp : 0 ≤ p ∧ p ≤ 255) (hqq : 0 ≤ q ∧ q ≤ 255) (hvv : 0 ≤ v ∧ v ≤ 255) (hxx : 0 ≤ x ∧ x ≤ 255) (hE : EnvH w) :
    Calls Tryd.prog 8 #[hv n vh, .int .u8 o, .int .u8 s, .int .u8 p, .int .u8 q, .int .u8 v, .int .u8 x] w fun e w' => e = .returned (.bool true) ∧ Below w.heap.size w w' := by
  by_cases e1 : o % 6 = p % 6
  · by_cases e2 : s % 3 = q % 3
    · exact walk_like n vh ls o s p q v x _ _ _ _ w hh hf ho hs hpp hqq hvv hxx hE rfl e1.symm rfl e2.symm rfl rfl
    · exact walk_off2 n vh ls o s p q v x _ _ _ _ _ w hh hf ho hs hpp hqq hvv hxx hE rfl e1.symm rfl rfl rfl rfl (beq_eq_false_iff_ne.2 e2)
  · exact walk_off1 n vh ls o s p q v x _ _ _ _ _ _ w hh hf ho hs hpp hqq hvv hxx hE rfl rfl rfl rfl rfl rfl (beq_eq_false_iff_ne.2 e1)

set_option maxRecDepth 100000 in
theorem lifted (os : Os) (started : os.Started) (H : Type) (enc : TypeId × Value → H) :
    ReturnsInHanded {} Tryd.checked os 8 .any (fun w args => (Rows.heapTwiceSpec.pre enc Tryd.prog Tryd.f8 Rows.heapTwiceRow.domain false w args ∧ laidMetH Tryd.prog Rows.heapTwiceRow.laid w) ∧ sizedMet enc Tryd.prog Tryd.f8 (OpenSpec.ofChange Rows.heapTwiceSpec) false w args) (Rows.heapTwiceSpec.post enc Tryd.prog Tryd.f8 false true false false) := by
  refine handed_and_shaped (C := Tryd.checked) (X := fun w _ => laidMetH Tryd.prog Rows.heapTwiceRow.laid w) (fun _ _ _ hh h => h.of_heap hh) ownL started (by kernel_rfl) Tryd.func8
    (ChangeSpec.witness_shaped (enc := enc) (C := Tryd.checked) (os := os) (X := fun w _ => laidMetH Tryd.prog Rows.heapTwiceRow.laid w) false (World.laidAll Tryd.prog os Rows.heapTwiceRow.laid) #[.agg #[.int .i64 0, .slice none 0 0], .int .u8 0, .int .u8 0, .int .u8 0, .int .u8 0, .int .u8 0, .int .u8 0] 8 (World.laidAll_os _ _ _)
      (World.shaped_of_ZipB (by kernel_rfl) (by kernel_rfl)) (by kernel_rfl) (by kernel_rfl) (by kernel_rfl)
      (by rw [MakeChecks.laidMetH_plain _ _ _ (by kernel_rfl)]; exact laidMet_laidAll _ (by kernel_rfl) (by kernel_rfl))) ?_
  intro W base args ds gs before hval0 hW hsz0 hL hsh
  have hval : ∀ (j : Nat) t v, Tryd.f8.params[j]? = some t → args[j]? = some v → Value.okWide Tryd.prog W .any base t v := hval0
  have hW' := hW
  obtain ⟨p, q, hA0, hV, rfl, hfz, hnd⟩ := hW
  have hA : DataW.TrodAll enc Tryd.prog W 0 (fun _ => true) true Tryd.f8.params.toList args.toList ds p := hA0
  rw [Tryd.params8] at hA hval
  obtain ⟨v0, vs0, d0, ds0, p0, q0, hargs, rfl, rfl, h0, r0⟩ := trodAll_cons hA
  obtain ⟨v1, vs1, d1, ds1, p1, q1, rfl, rfl, rfl, h1, r1⟩ := trodAll_cons r0
  obtain ⟨v2, vs2, d2, ds2, p2, q2, rfl, rfl, rfl, h2, r2⟩ := trodAll_cons r1
  obtain ⟨v3, vs3, d3, ds3, p3, q3, rfl, rfl, rfl, h3, r3⟩ := trodAll_cons r2
  obtain ⟨v4, vs4, d4, ds4, p4, q4, rfl, rfl, rfl, h4, r4⟩ := trodAll_cons r3
  obtain ⟨v5, vs5, d5, ds5, p5, q5, rfl, rfl, rfl, h5, r5⟩ := trodAll_cons r4
  obtain ⟨v6, vs6, d6, ds6, p6, q6, rfl, rfl, rfl, h6, r6⟩ := trodAll_cons r5
  obtain ⟨rfl, rfl, rfl⟩ := trodAll_nil r6
  obtain rfl : args = #[v0, v1, v2, v3, v4, v5, v6] := by cases args; simp_all
  obtain ⟨rfl, rfl⟩ := trodVars_none hV
  obtain ⟨n0, u0, ls0, rfl, hg0, hn0, hr0, hf0⟩ := open_heap (hval 0 24 v0 rfl rfl) h0
  obtain ⟨a1, rfl, rfl, rfl, w1⟩ := open_int Tryd.underlying5 (hval 1 5 v1 rfl rfl) h1
  have hx1 : 0 ≤ a1 ∧ a1 ≤ 255 := by simpa [Lit.wf, IntKind.min, IntKind.max, IntKind.signed, IntKind.bits] using w1
  obtain ⟨a2, rfl, rfl, rfl, w2⟩ := open_int Tryd.underlying5 (hval 2 5 v2 rfl rfl) h2
  have hx2 : 0 ≤ a2 ∧ a2 ≤ 255 := by simpa [Lit.wf, IntKind.min, IntKind.max, IntKind.signed, IntKind.bits] using w2
  obtain ⟨a3, rfl, rfl, rfl, w3⟩ := open_int Tryd.underlying5 (hval 3 5 v3 rfl rfl) h3
  have hx3 : 0 ≤ a3 ∧ a3 ≤ 255 := by simpa [Lit.wf, IntKind.min, IntKind.max, IntKind.signed, IntKind.bits] using w3
  obtain ⟨a4, rfl, rfl, rfl, w4⟩ := open_int Tryd.underlying5 (hval 4 5 v4 rfl rfl) h4
  have hx4 : 0 ≤ a4 ∧ a4 ≤ 255 := by simpa [Lit.wf, IntKind.min, IntKind.max, IntKind.signed, IntKind.bits] using w4
  obtain ⟨a5, rfl, rfl, rfl, w5⟩ := open_int Tryd.underlying5 (hval 5 5 v5 rfl rfl) h5
  have hx5 : 0 ≤ a5 ∧ a5 ≤ 255 := by simpa [Lit.wf, IntKind.min, IntKind.max, IntKind.signed, IntKind.bits] using w5
  obtain ⟨a6, rfl, rfl, rfl, w6⟩ := open_int Tryd.underlying5 (hval 6 5 v6 rfl rfl) h6
  have hx6 : 0 ≤ a6 ∧ a6 ≤ 255 := by simpa [Lit.wf, IntKind.min, IntKind.max, IntKind.signed, IntKind.bits] using w6
  have hsz : (DataW.weightsEach Tryd.prog [24, 5, 5, 5, 5, 5, 5] ([d0, .lit (.int .u8 a1), .lit (.int .u8 a2), .lit (.int .u8 a3), .lit (.int .u8 a4), .lit (.int .u8 a5), .lit (.int .u8 a6)] : List (DataW H))).all (· ≤ reachBytes) = true := hsz0
  have e0 : Fit ls0 := hf0 fun k hk => by have h1 := List.all_eq_true.1 hsz k (DataW.weights_mem_each (j := 0) rfl rfl k hk); simpa [reachBytes] using of_decide_eq_true h1
  have hE := env_of_laid hL
  refine (walk n0 _ ls0 a1 a2 a3 a4 a5 a6 W hg0 e0 hx1 hx2 hx3 hx4 hx5 hx6 hE).mono fun e W' ⟨he, hg⟩ => ?_
  subst he
  exact ⟨_, rfl, law_post laidOutL (by kernel_rfl) rfl Tryd.underlying4 rfl ⟨rfl, rfl, rfl⟩ hW' hg⟩
theorem row_holds : Rows.HeapTwiceSaid :=
  OpenClaim.holds_of_wide 8 Tryd.f8 rfl rfl rfl rfl rfl rfl rfl ⟨rfl, rfl, rfl, rfl, rfl⟩ rfl rfl rfl rfl rfl (by kernel_rfl) Tryd.func8 (by kernel_rfl)
    (of_decide_eq_true (by kernel_rfl)) (by unfold Func.isWrapper; first | (rw [if_pos (by decide +kernel)]; kernel_rfl) | (rw [if_neg (by decide +kernel)]; exact ⟨rfl, rfl⟩))
    (fun os started H enc _ => lifted os started H enc)

/-- THE STATEMENT -/
theorem proved : Rows.HeapTwiceCardSaid :=
  Claim7.holds_tied_plain_at .later [] Rows.heapTwiceCard.laidKinds true Rows.heapTwiceCard.stood.harness Rows.heapTwiceCard.stood.looks
    row_holds (fun _ h => by cases h) (by kernel_rfl) (fun _ h => by cases h) heapTwice_row_tie rfl ⟨rfl, rfl⟩ (by kernel_rfl) rfl
    (fun f fn hf hfn => by
      obtain rfl : f = 8 := Option.some.inj ((show Tryd.prog.funcNamed Rows.heapTwiceRow.func = some 8 by kernel_rfl).symm.trans hf) |>.symm
      obtain rfl : fn = Tryd.f8 := (Option.some.inj (Tryd.func8.symm.trans hfn)).symm
      exact ⟨by kernel_rfl, fun j t ht => by
        rw [Tryd.params8] at ht
        have hm : t ∈ [24, 5, 5, 5, 5, 5, 5] := by simpa using Array.mem_of_getElem? ht
        have hall : ([24, 5, 5, 5, 5, 5, 5].all fun u => !Tryd.prog.wantsStandIn u) = true := by kernel_rfl
        exact (show Tryd.prog.wantsStandIn t = false by simpa using List.all_eq_true.1 hall t hm)⟩)
    (by kernel_rfl)
end Go.Proofs.YtnbbjkikplfpoaaDoor.lawHeapTwice
