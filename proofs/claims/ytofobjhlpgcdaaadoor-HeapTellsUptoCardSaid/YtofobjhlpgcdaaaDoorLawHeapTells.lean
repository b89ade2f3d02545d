/- HeapTells: of any heaps, any numbers, any text all is told as the chapter says, which the document itself tells. All arguments together at most 1048576 values and letters; the listed tables are tied to the text by the card. -/
import Derived.Test.YtofobjhlpgcdaaaDoorHeapTiedT
import Derived.Test.YtofobjhlpgcdaaaDoorRefHeapL
import Derived.Deep.DeepHandedRow
namespace Go.Proofs.YtofobjhlpgcdaaaDoor.lawHeapTells
open Go.RowKit Go.WideShapes Go.ChangeShapes Go.ChangeAt Go.Shelf Go.Proofs Go.Proofs.YtofobjhlpgcdaaaDoor

set_option maxRecDepth 100000 in
set_option maxHeartbeats 8000000 in
theorem walk (n m : Int) (va vb : Value) (a b : Rws) (o s v most : Int) (t : ByteArray) (w : World) (ha : Grid w va a) (hb : Grid w vb b) (hf : Fit a) (ht : t.size ≤ 1048576) (hE : EnvH w) : Calls Tryd.prog 3 #[hv n va, hv m vb, .int .i64 o, .int .i64 s, .int .i64 v, .int .i64 most, .string t] w fun e w' => e = .returned (.bool true) ∧ Below w.heap.size w w' := by
  have GA := hide ha
  have GB := hide hb
  have hF := hide hf
  have HE := hide hE
  have hB : Below w.heap.size w w := Below.refl _ _
  have hts := hide (show t.size ≤ 140737488351232 by omega)
  have ht' := hide ht
  obtain ⟨A, c, rfl, h1, h2⟩ := ha.form
  obtain ⟨B, d, rfl, h3, h4⟩ := hb.form
  unfold maxLen at h2 h4
  obtain ⟨x, h_x⟩ : ∃ z, getF a o s = z := ⟨_, rfl⟩
  have H_x := hide h_x
  obtain ⟨hd, h_hd⟩ : ∃ z, hasS a o s = z := ⟨_, rfl⟩
  have H_hd := hide h_hd
  obtain ⟨P, h_P⟩ : ∃ z, putF a o s v = z := ⟨_, rfl⟩
  have H_P := hide h_P
  obtain ⟨ok, h_ok⟩ : ∃ z, putOk a o s v = z := ⟨_, rfl⟩
  have H_ok := hide h_ok
  obtain ⟨Q, h_Q⟩ : ∃ z, allocF n a most = z := ⟨_, rfl⟩
  have H_Q := hide h_Q
  obtain ⟨an, h_an⟩ : ∃ z, allocN n a most = z := ⟨_, rfl⟩
  have H_an := hide h_an
  obtain ⟨ae, h_ae⟩ : ∃ z, allocE n a most = z := ⟨_, rfl⟩
  have H_ae := hide h_ae
  obtain ⟨ra, h_ra⟩ : ∃ z, rightF n a = z := ⟨_, rfl⟩
  have H_ra := hide h_ra
  obtain ⟨sm, h_sm⟩ : ∃ z, sameF n a m b = z := ⟨_, rfl⟩
  have H_sm := hide h_sm
  obtain ⟨kq, h_kq⟩ : ∃ z, Q.length = z := ⟨_, rfl⟩
  have H_kq := hide h_kq
  obtain ⟨pn, pR, px, h_px⟩ : ∃ (n : Int) (R : Rws) (x : Int), (heapF t.data.toList = some (n, R) ∧ x = 0) ∨ (heapF t.data.toList = none ∧ n = 0 ∧ R = [] ∧ x = 2) := by
    rcases e : heapF t.data.toList with _ | ⟨n, R⟩
    · exact ⟨0, [], 2, .inr ⟨rfl, rfl, rfl, rfl⟩⟩
    · exact ⟨n, R, 0, .inl ⟨rfl, rfl⟩⟩
  have H_px := hide h_px
  obtain ⟨pk, h_pk⟩ : ∃ z, pR.length = z := ⟨_, rfl⟩
  have H_pk := hide h_pk
  obtain ⟨tx, h_tx⟩ : ∃ z : ByteArray, textF n a = z.data.toList := ⟨⟨(textF n a).toArray⟩, rfl⟩
  have H_tx := hide h_tx
  clear ha hb hf hE ht h_x h_hd h_P h_ok h_Q h_an h_ae h_ra h_sm h_kq h_px h_pk h_tx
  obtain ⟨wp0_, ep0_, hbp0_, hltp0_, -, x0p_, y0p_⟩ := box1 w (.int .i64 n) (.slice A a.length c) 24
  have hszp0_ : wp0_.heap.size = w.heap.size + 1 := by rw [← ep0_]; simp
  have HEP0_ := hide ep0_
  clear ep0_
  have GA := hide (GA.out.below hbp0_)
  have GB := hide (GB.out.below hbp0_)
  have HE := hide (HE.out.below hbp0_)
  have hB := bcall hB hbp0_
  obtain ⟨wp1_, ep1_, hbp1_, hltp1_, -, x1p_, y1p_⟩ := box1 wp0_ (.int .i64 m) (.slice B b.length d) 24
  rw [hszp0_] at x1p_ y1p_
  clear hszp0_
  have HEP1_ := hide ep1_
  clear ep1_
  have x0p_ := keepc hbp1_ x0p_
  have y0p_ := keepc hbp1_ y0p_
  have GA := hide (GA.out.below hbp1_)
  have GB := hide (GB.out.below hbp1_)
  have HE := hide (HE.out.below hbp1_)
  have hB := bcall hB hbp1_
  go_enter Tryd.func3, Tryd.ntmps3
  go_wp2_with fail
  rw [HEP0_.out, HEP1_.out]
  (with_reducible refine (examples_any _ HE.out).mono ?_)
  rintro e w0_ ⟨rfl, hb0_⟩
  have x0p_ := keepc hb0_ x0p_
  have y0p_ := keepc hb0_ y0p_
  have x1p_ := keepc hb0_ x1p_
  have y1p_ := keepc hb0_ y1p_
  have GA := hide (GA.out.below hb0_)
  have GB := hide (GB.out.below hb0_)
  have hB := bcall hB hb0_
  have HE := hide (HE.out.below hb0_)
  go_wp2_with fail
  (with_reducible refine (refHeap_any n A a.length c _).mono ?_)
  rintro e w1_ ⟨rfl, hb1_⟩
  have x0p_ := keepc hb1_ x0p_
  have y0p_ := keepc hb1_ y0p_
  have x1p_ := keepc hb1_ x1p_
  have y1p_ := keepc hb1_ y1p_
  have GA := hide (GA.out.below hb1_)
  have GB := hide (GB.out.below hb1_)
  have HE := hide (HE.out.below hb1_)
  have hB := bcall hB hb1_
  obtain ⟨wb1_, eb1_, hbb1_, hlt1_, -, x1_, y1_⟩ := box1 w1_ (.int .i64 n) (.slice A a.length c) 26
  have HEB1_ := hide eb1_
  clear eb1_
  have x0p_a := fun o => keepc (bal w1_ o) x0p_
  have y0p_a := fun o => keepc (bal w1_ o) y0p_
  have x1p_a := fun o => keepc (bal w1_ o) x1p_
  have y1p_a := fun o => keepc (bal w1_ o) y1p_
  have x0p_ := keepc hbb1_ x0p_
  have y0p_ := keepc hbb1_ y0p_
  have x1p_ := keepc hbb1_ x1p_
  have y1p_ := keepc hbb1_ y1p_
  have GA := hide (GA.out.below hbb1_)
  have GB := hide (GB.out.below hbb1_)
  have HE := hide (HE.out.below hbb1_)
  have hB := bcall hB hbb1_
  go_wp2_with fail
  rw [HEB1_.out]
  clear x0p_a y0p_a x1p_a y1p_a
  (with_reducible refine (Get_c n _ a o s _ GA.out x H_x.out hd H_hd.out).mono ?_)
  rintro e w2_ ⟨rfl, hb2_⟩
  have x0p_ := keepc hb2_ x0p_
  have y0p_ := keepc hb2_ y0p_
  have x1p_ := keepc hb2_ x1p_
  have y1p_ := keepc hb2_ y1p_
  have x1_ := keepc hb2_ x1_
  have y1_ := keepc hb2_ y1_
  have GA := hide (GA.out.below hb2_)
  have GB := hide (GB.out.below hb2_)
  have HE := hide (HE.out.below hb2_)
  have hB := bcall hB hb2_
  go_wp2_with fail
  (with_reducible refine (rGet_c n _ a o s _ GA.out x H_x.out hd H_hd.out).mono ?_)
  rintro e w3_ ⟨rfl, hb3_⟩
  have x0p_ := keepc hb3_ x0p_
  have y0p_ := keepc hb3_ y0p_
  have x1p_ := keepc hb3_ x1p_
  have y1p_ := keepc hb3_ y1p_
  have x1_ := keepc hb3_ x1_
  have y1_ := keepc hb3_ y1_
  have GA := hide (GA.out.below hb3_)
  have GB := hide (GB.out.below hb3_)
  have HE := hide (HE.out.below hb3_)
  have hB := bcall hB hb3_
  go_wp2_with fail
  (with_reducible refine (Put_c n _ a o s v _ GA.out hF.out a.length rfl P H_P.out ok H_ok.out).mono ?_)
  rintro e w4_ ⟨A4_, c4_, rfl, p4_, q4_, GP, hb4_⟩
  have x0p_ := keepc hb4_ x0p_
  have y0p_ := keepc hb4_ y0p_
  have x1p_ := keepc hb4_ x1p_
  have y1p_ := keepc hb4_ y1p_
  have x1_ := keepc hb4_ x1_
  have y1_ := keepc hb4_ y1_
  have GA := hide (GA.out.below hb4_)
  have GB := hide (GB.out.below hb4_)
  have HE := hide (HE.out.below hb4_)
  have hB := bcall hB hb4_
  have GP := hide GP.out.grid
  obtain ⟨wb4_, eb4_, hbb4_, hlt4_, -, x4_, y4_⟩ := box1 w4_ (.int .i64 n) (.slice A4_ a.length c4_) 24
  have HEB4_ := hide eb4_
  clear eb4_
  have x0p_a := fun o => keepc (bal w4_ o) x0p_
  have y0p_a := fun o => keepc (bal w4_ o) y0p_
  have x1p_a := fun o => keepc (bal w4_ o) x1p_
  have y1p_a := fun o => keepc (bal w4_ o) y1p_
  have x1_a := fun o => keepc (bal w4_ o) x1_
  have y1_a := fun o => keepc (bal w4_ o) y1_
  have x0p_ := keepc hbb4_ x0p_
  have y0p_ := keepc hbb4_ y0p_
  have x1p_ := keepc hbb4_ x1p_
  have y1p_ := keepc hbb4_ y1p_
  have x1_ := keepc hbb4_ x1_
  have y1_ := keepc hbb4_ y1_
  have GA := hide (GA.out.below hbb4_)
  have GB := hide (GB.out.below hbb4_)
  have GP := hide (GP.out.below hbb4_)
  have HE := hide (HE.out.below hbb4_)
  have hB := bcall hB hbb4_
  go_wp2_with fail
  rw [HEB4_.out]
  clear x0p_a y0p_a x1p_a y1p_a x1_a y1_a
  (with_reducible refine (rPut_c n _ a o s v _ GA.out hF.out a.length rfl P H_P.out ok H_ok.out).mono ?_)
  rintro e w5_ ⟨A5_, c5_, rfl, p5_, q5_, GRP, hb5_⟩
  have x0p_ := keepc hb5_ x0p_
  have y0p_ := keepc hb5_ y0p_
  have x1p_ := keepc hb5_ x1p_
  have y1p_ := keepc hb5_ y1p_
  have x1_ := keepc hb5_ x1_
  have y1_ := keepc hb5_ y1_
  have x4_ := keepc hb5_ x4_
  have y4_ := keepc hb5_ y4_
  have GA := hide (GA.out.below hb5_)
  have GB := hide (GB.out.below hb5_)
  have GP := hide (GP.out.below hb5_)
  have HE := hide (HE.out.below hb5_)
  have hB := bcall hB hb5_
  obtain ⟨wb5_, eb5_, hbb5_, hlt5_, -, x5_, y5_⟩ := box1 w5_ (.int .i64 n) (.slice A5_ a.length c5_) 26
  have HEB5_ := hide eb5_
  clear eb5_
  have x0p_a := fun o => keepc (bal w5_ o) x0p_
  have y0p_a := fun o => keepc (bal w5_ o) y0p_
  have x1p_a := fun o => keepc (bal w5_ o) x1p_
  have y1p_a := fun o => keepc (bal w5_ o) y1p_
  have x1_a := fun o => keepc (bal w5_ o) x1_
  have y1_a := fun o => keepc (bal w5_ o) y1_
  have x4_a := fun o => keepc (bal w5_ o) x4_
  have y4_a := fun o => keepc (bal w5_ o) y4_
  have x0p_ := keepc hbb5_ x0p_
  have y0p_ := keepc hbb5_ y0p_
  have x1p_ := keepc hbb5_ x1p_
  have y1p_ := keepc hbb5_ y1p_
  have x1_ := keepc hbb5_ x1_
  have y1_ := keepc hbb5_ y1_
  have x4_ := keepc hbb5_ x4_
  have y4_ := keepc hbb5_ y4_
  have GA := hide (GA.out.below hbb5_)
  have GB := hide (GB.out.below hbb5_)
  have GP := hide (GP.out.below hbb5_)
  have GRP := hide (GRP.out.below hbb5_)
  have HE := hide (HE.out.below hbb5_)
  have hB := bcall hB hbb5_
  go_wp2_with fail
  rw [HEB5_.out]
  clear x0p_a y0p_a x1p_a y1p_a x1_a y1_a x4_a y4_a
  (with_reducible refine (Alloc_c n _ a most _ GA.out hF.out Q H_Q.out kq H_kq.out an H_an.out ae H_ae.out).mono ?_)
  rintro e w6_ ⟨A6_, c6_, rfl, p6_, q6_, GQ, hb6_⟩
  have x0p_ := keepc hb6_ x0p_
  have y0p_ := keepc hb6_ y0p_
  have x1p_ := keepc hb6_ x1p_
  have y1p_ := keepc hb6_ y1p_
  have x1_ := keepc hb6_ x1_
  have y1_ := keepc hb6_ y1_
  have x4_ := keepc hb6_ x4_
  have y4_ := keepc hb6_ y4_
  have x5_ := keepc hb6_ x5_
  have y5_ := keepc hb6_ y5_
  have GA := hide (GA.out.below hb6_)
  have GB := hide (GB.out.below hb6_)
  have GP := hide (GP.out.below hb6_)
  have GRP := hide (GRP.out.below hb6_)
  have HE := hide (HE.out.below hb6_)
  have hB := bcall hB hb6_
  have GQ := hide GQ.out.grid
  obtain ⟨wb6_, eb6_, hbb6_, hlt6_, -, x6_, y6_⟩ := box1 w6_ (.int .i64 n) (.slice A6_ kq c6_) 24
  have HEB6_ := hide eb6_
  clear eb6_
  have x0p_a := fun o => keepc (bal w6_ o) x0p_
  have y0p_a := fun o => keepc (bal w6_ o) y0p_
  have x1p_a := fun o => keepc (bal w6_ o) x1p_
  have y1p_a := fun o => keepc (bal w6_ o) y1p_
  have x1_a := fun o => keepc (bal w6_ o) x1_
  have y1_a := fun o => keepc (bal w6_ o) y1_
  have x4_a := fun o => keepc (bal w6_ o) x4_
  have y4_a := fun o => keepc (bal w6_ o) y4_
  have x5_a := fun o => keepc (bal w6_ o) x5_
  have y5_a := fun o => keepc (bal w6_ o) y5_
  have x0p_ := keepc hbb6_ x0p_
  have y0p_ := keepc hbb6_ y0p_
  have x1p_ := keepc hbb6_ x1p_
  have y1p_ := keepc hbb6_ y1p_
  have x1_ := keepc hbb6_ x1_
  have y1_ := keepc hbb6_ y1_
  have x4_ := keepc hbb6_ x4_
  have y4_ := keepc hbb6_ y4_
  have x5_ := keepc hbb6_ x5_
  have y5_ := keepc hbb6_ y5_
  have GA := hide (GA.out.below hbb6_)
  have GB := hide (GB.out.below hbb6_)
  have GP := hide (GP.out.below hbb6_)
  have GRP := hide (GRP.out.below hbb6_)
  have GQ := hide (GQ.out.below hbb6_)
  have HE := hide (HE.out.below hbb6_)
  have hB := bcall hB hbb6_
  go_wp2_with fail
  rw [HEB6_.out]
  clear x0p_a y0p_a x1p_a y1p_a x1_a y1_a x4_a y4_a x5_a y5_a
  (with_reducible refine (rAlloc_c n _ a most _ GA.out hF.out Q H_Q.out kq H_kq.out an H_an.out ae H_ae.out).mono ?_)
  rintro e w7_ ⟨A7_, c7_, rfl, p7_, q7_, GRQ, hb7_⟩
  have x0p_ := keepc hb7_ x0p_
  have y0p_ := keepc hb7_ y0p_
  have x1p_ := keepc hb7_ x1p_
  have y1p_ := keepc hb7_ y1p_
  have x1_ := keepc hb7_ x1_
  have y1_ := keepc hb7_ y1_
  have x4_ := keepc hb7_ x4_
  have y4_ := keepc hb7_ y4_
  have x5_ := keepc hb7_ x5_
  have y5_ := keepc hb7_ y5_
  have x6_ := keepc hb7_ x6_
  have y6_ := keepc hb7_ y6_
  have GA := hide (GA.out.below hb7_)
  have GB := hide (GB.out.below hb7_)
  have GP := hide (GP.out.below hb7_)
  have GRP := hide (GRP.out.below hb7_)
  have GQ := hide (GQ.out.below hb7_)
  have HE := hide (HE.out.below hb7_)
  have hB := bcall hB hb7_
  obtain ⟨wb7_, eb7_, hbb7_, hlt7_, -, x7_, y7_⟩ := box1 w7_ (.int .i64 n) (.slice A7_ kq c7_) 26
  have HEB7_ := hide eb7_
  clear eb7_
  have x0p_a := fun o => keepc (bal w7_ o) x0p_
  have y0p_a := fun o => keepc (bal w7_ o) y0p_
  have x1p_a := fun o => keepc (bal w7_ o) x1p_
  have y1p_a := fun o => keepc (bal w7_ o) y1p_
  have x1_a := fun o => keepc (bal w7_ o) x1_
  have y1_a := fun o => keepc (bal w7_ o) y1_
  have x4_a := fun o => keepc (bal w7_ o) x4_
  have y4_a := fun o => keepc (bal w7_ o) y4_
  have x5_a := fun o => keepc (bal w7_ o) x5_
  have y5_a := fun o => keepc (bal w7_ o) y5_
  have x6_a := fun o => keepc (bal w7_ o) x6_
  have y6_a := fun o => keepc (bal w7_ o) y6_
  have x0p_ := keepc hbb7_ x0p_
  have y0p_ := keepc hbb7_ y0p_
  have x1p_ := keepc hbb7_ x1p_
  have y1p_ := keepc hbb7_ y1p_
  have x1_ := keepc hbb7_ x1_
  have y1_ := keepc hbb7_ y1_
  have x4_ := keepc hbb7_ x4_
  have y4_ := keepc hbb7_ y4_
  have x5_ := keepc hbb7_ x5_
  have y5_ := keepc hbb7_ y5_
  have x6_ := keepc hbb7_ x6_
  have y6_ := keepc hbb7_ y6_
  have GA := hide (GA.out.below hbb7_)
  have GB := hide (GB.out.below hbb7_)
  have GP := hide (GP.out.below hbb7_)
  have GRP := hide (GRP.out.below hbb7_)
  have GQ := hide (GQ.out.below hbb7_)
  have GRQ := hide (GRQ.out.below hbb7_)
  have HE := hide (HE.out.below hbb7_)
  have hB := bcall hB hbb7_
  go_wp2_with fail
  rw [HEB7_.out]
  clear x0p_a y0p_a x1p_a y1p_a x1_a y1_a x4_a y4_a x5_a y5_a x6_a y6_a
  (with_reducible refine (Parse_c t _ hts.out HE.out pn pR px H_px.out pk H_pk.out).mono ?_)
  rintro e w8_ ⟨A8_, c8_, rfl, p8_, q8_, GT, hb8_⟩
  have x0p_ := keepc hb8_ x0p_
  have y0p_ := keepc hb8_ y0p_
  have x1p_ := keepc hb8_ x1p_
  have y1p_ := keepc hb8_ y1p_
  have x1_ := keepc hb8_ x1_
  have y1_ := keepc hb8_ y1_
  have x4_ := keepc hb8_ x4_
  have y4_ := keepc hb8_ y4_
  have x5_ := keepc hb8_ x5_
  have y5_ := keepc hb8_ y5_
  have x6_ := keepc hb8_ x6_
  have y6_ := keepc hb8_ y6_
  have x7_ := keepc hb8_ x7_
  have y7_ := keepc hb8_ y7_
  have GA := hide (GA.out.below hb8_)
  have GB := hide (GB.out.below hb8_)
  have GP := hide (GP.out.below hb8_)
  have GRP := hide (GRP.out.below hb8_)
  have GQ := hide (GQ.out.below hb8_)
  have GRQ := hide (GRQ.out.below hb8_)
  have HE := hide (HE.out.below hb8_)
  have hB := bcall hB hb8_
  have GT := hide GT.out.grid
  obtain ⟨wb8_, eb8_, hbb8_, hlt8_, -, x8_, y8_⟩ := box1 w8_ (.int .i64 pn) (.slice A8_ pk c8_) 24
  have HEB8_ := hide eb8_
  clear eb8_
  have x0p_a := fun o => keepc (bal w8_ o) x0p_
  have y0p_a := fun o => keepc (bal w8_ o) y0p_
  have x1p_a := fun o => keepc (bal w8_ o) x1p_
  have y1p_a := fun o => keepc (bal w8_ o) y1p_
  have x1_a := fun o => keepc (bal w8_ o) x1_
  have y1_a := fun o => keepc (bal w8_ o) y1_
  have x4_a := fun o => keepc (bal w8_ o) x4_
  have y4_a := fun o => keepc (bal w8_ o) y4_
  have x5_a := fun o => keepc (bal w8_ o) x5_
  have y5_a := fun o => keepc (bal w8_ o) y5_
  have x6_a := fun o => keepc (bal w8_ o) x6_
  have y6_a := fun o => keepc (bal w8_ o) y6_
  have x7_a := fun o => keepc (bal w8_ o) x7_
  have y7_a := fun o => keepc (bal w8_ o) y7_
  have x0p_ := keepc hbb8_ x0p_
  have y0p_ := keepc hbb8_ y0p_
  have x1p_ := keepc hbb8_ x1p_
  have y1p_ := keepc hbb8_ y1p_
  have x1_ := keepc hbb8_ x1_
  have y1_ := keepc hbb8_ y1_
  have x4_ := keepc hbb8_ x4_
  have y4_ := keepc hbb8_ y4_
  have x5_ := keepc hbb8_ x5_
  have y5_ := keepc hbb8_ y5_
  have x6_ := keepc hbb8_ x6_
  have y6_ := keepc hbb8_ y6_
  have x7_ := keepc hbb8_ x7_
  have y7_ := keepc hbb8_ y7_
  have GA := hide (GA.out.below hbb8_)
  have GB := hide (GB.out.below hbb8_)
  have GP := hide (GP.out.below hbb8_)
  have GRP := hide (GRP.out.below hbb8_)
  have GQ := hide (GQ.out.below hbb8_)
  have GRQ := hide (GRQ.out.below hbb8_)
  have GT := hide (GT.out.below hbb8_)
  have HE := hide (HE.out.below hbb8_)
  have hB := bcall hB hbb8_
  go_wp2_with fail
  rw [HEB8_.out]
  clear x0p_a y0p_a x1p_a y1p_a x1_a y1_a x4_a y4_a x5_a y5_a x6_a y6_a x7_a y7_a
  (with_reducible refine (rParse_c t _ ht'.out pn pR px H_px.out pk H_pk.out).mono ?_)
  rintro e w9_ ⟨A9_, c9_, rfl, p9_, q9_, GRT, hb9_⟩
  have x0p_ := keepc hb9_ x0p_
  have y0p_ := keepc hb9_ y0p_
  have x1p_ := keepc hb9_ x1p_
  have y1p_ := keepc hb9_ y1p_
  have x1_ := keepc hb9_ x1_
  have y1_ := keepc hb9_ y1_
  have x4_ := keepc hb9_ x4_
  have y4_ := keepc hb9_ y4_
  have x5_ := keepc hb9_ x5_
  have y5_ := keepc hb9_ y5_
  have x6_ := keepc hb9_ x6_
  have y6_ := keepc hb9_ y6_
  have x7_ := keepc hb9_ x7_
  have y7_ := keepc hb9_ y7_
  have x8_ := keepc hb9_ x8_
  have y8_ := keepc hb9_ y8_
  have GA := hide (GA.out.below hb9_)
  have GB := hide (GB.out.below hb9_)
  have GP := hide (GP.out.below hb9_)
  have GRP := hide (GRP.out.below hb9_)
  have GQ := hide (GQ.out.below hb9_)
  have GRQ := hide (GRQ.out.below hb9_)
  have GT := hide (GT.out.below hb9_)
  have HE := hide (HE.out.below hb9_)
  have hB := bcall hB hb9_
  obtain ⟨wb9_, eb9_, hbb9_, hlt9_, -, x9_, y9_⟩ := box1 w9_ (.int .i64 pn) (.slice A9_ pk c9_) 26
  have HEB9_ := hide eb9_
  clear eb9_
  have x0p_a := fun o => keepc (bal w9_ o) x0p_
  have y0p_a := fun o => keepc (bal w9_ o) y0p_
  have x1p_a := fun o => keepc (bal w9_ o) x1p_
  have y1p_a := fun o => keepc (bal w9_ o) y1p_
  have x1_a := fun o => keepc (bal w9_ o) x1_
  have y1_a := fun o => keepc (bal w9_ o) y1_
  have x4_a := fun o => keepc (bal w9_ o) x4_
  have y4_a := fun o => keepc (bal w9_ o) y4_
  have x5_a := fun o => keepc (bal w9_ o) x5_
  have y5_a := fun o => keepc (bal w9_ o) y5_
  have x6_a := fun o => keepc (bal w9_ o) x6_
  have y6_a := fun o => keepc (bal w9_ o) y6_
  have x7_a := fun o => keepc (bal w9_ o) x7_
  have y7_a := fun o => keepc (bal w9_ o) y7_
  have x8_a := fun o => keepc (bal w9_ o) x8_
  have y8_a := fun o => keepc (bal w9_ o) y8_
  have x0p_ := keepc hbb9_ x0p_
  have y0p_ := keepc hbb9_ y0p_
  have x1p_ := keepc hbb9_ x1p_
  have y1p_ := keepc hbb9_ y1p_
  have x1_ := keepc hbb9_ x1_
  have y1_ := keepc hbb9_ y1_
  have x4_ := keepc hbb9_ x4_
  have y4_ := keepc hbb9_ y4_
  have x5_ := keepc hbb9_ x5_
  have y5_ := keepc hbb9_ y5_
  have x6_ := keepc hbb9_ x6_
  have y6_ := keepc hbb9_ y6_
  have x7_ := keepc hbb9_ x7_
  have y7_ := keepc hbb9_ y7_
  have x8_ := keepc hbb9_ x8_
  have y8_ := keepc hbb9_ y8_
  have GA := hide (GA.out.below hbb9_)
  have GB := hide (GB.out.below hbb9_)
  have GP := hide (GP.out.below hbb9_)
  have GRP := hide (GRP.out.below hbb9_)
  have GQ := hide (GQ.out.below hbb9_)
  have GRQ := hide (GRQ.out.below hbb9_)
  have GT := hide (GT.out.below hbb9_)
  have GRT := hide (GRT.out.below hbb9_)
  have HE := hide (HE.out.below hbb9_)
  have hB := bcall hB hbb9_
  go_wp2_with fail
  rw [HEB9_.out]
  clear x0p_a y0p_a x1p_a y1p_a x1_a y1_a x4_a y4_a x5_a y5_a x6_a y6_a x7_a y7_a x8_a y8_a
  (with_reducible refine (sameHeap_c n _ _ a.length _ _ P _ GP.out GRP.out).mono ?_)
  rintro e w10_ ⟨rfl, hb10_⟩
  have x0p_ := keepc hb10_ x0p_
  have y0p_ := keepc hb10_ y0p_
  have x1p_ := keepc hb10_ x1p_
  have y1p_ := keepc hb10_ y1p_
  have x1_ := keepc hb10_ x1_
  have y1_ := keepc hb10_ y1_
  have x4_ := keepc hb10_ x4_
  have y4_ := keepc hb10_ y4_
  have x5_ := keepc hb10_ x5_
  have y5_ := keepc hb10_ y5_
  have x6_ := keepc hb10_ x6_
  have y6_ := keepc hb10_ y6_
  have x7_ := keepc hb10_ x7_
  have y7_ := keepc hb10_ y7_
  have x8_ := keepc hb10_ x8_
  have y8_ := keepc hb10_ y8_
  have x9_ := keepc hb10_ x9_
  have y9_ := keepc hb10_ y9_
  have GA := hide (GA.out.below hb10_)
  have GB := hide (GB.out.below hb10_)
  have GP := hide (GP.out.below hb10_)
  have GRP := hide (GRP.out.below hb10_)
  have GQ := hide (GQ.out.below hb10_)
  have GRQ := hide (GRQ.out.below hb10_)
  have GT := hide (GT.out.below hb10_)
  have GRT := hide (GRT.out.below hb10_)
  have HE := hide (HE.out.below hb10_)
  have hB := bcall hB hb10_
  go_wp2_with fail
  (with_reducible refine (sameHeap_c n _ _ kq _ _ Q _ GQ.out GRQ.out).mono ?_)
  rintro e w11_ ⟨rfl, hb11_⟩
  have x0p_ := keepc hb11_ x0p_
  have y0p_ := keepc hb11_ y0p_
  have x1p_ := keepc hb11_ x1p_
  have y1p_ := keepc hb11_ y1p_
  have x1_ := keepc hb11_ x1_
  have y1_ := keepc hb11_ y1_
  have x4_ := keepc hb11_ x4_
  have y4_ := keepc hb11_ y4_
  have x5_ := keepc hb11_ x5_
  have y5_ := keepc hb11_ y5_
  have x6_ := keepc hb11_ x6_
  have y6_ := keepc hb11_ y6_
  have x7_ := keepc hb11_ x7_
  have y7_ := keepc hb11_ y7_
  have x8_ := keepc hb11_ x8_
  have y8_ := keepc hb11_ y8_
  have x9_ := keepc hb11_ x9_
  have y9_ := keepc hb11_ y9_
  have GA := hide (GA.out.below hb11_)
  have GB := hide (GB.out.below hb11_)
  have GP := hide (GP.out.below hb11_)
  have GRP := hide (GRP.out.below hb11_)
  have GQ := hide (GQ.out.below hb11_)
  have GRQ := hide (GRQ.out.below hb11_)
  have GT := hide (GT.out.below hb11_)
  have GRT := hide (GRT.out.below hb11_)
  have HE := hide (HE.out.below hb11_)
  have hB := bcall hB hb11_
  go_wp2_with fail
  (with_reducible refine (sameHeap_c pn _ _ pk _ _ pR _ GT.out GRT.out).mono ?_)
  rintro e w12_ ⟨rfl, hb12_⟩
  have x0p_ := keepc hb12_ x0p_
  have y0p_ := keepc hb12_ y0p_
  have x1p_ := keepc hb12_ x1p_
  have y1p_ := keepc hb12_ y1p_
  have x1_ := keepc hb12_ x1_
  have y1_ := keepc hb12_ y1_
  have x4_ := keepc hb12_ x4_
  have y4_ := keepc hb12_ y4_
  have x5_ := keepc hb12_ x5_
  have y5_ := keepc hb12_ y5_
  have x6_ := keepc hb12_ x6_
  have y6_ := keepc hb12_ y6_
  have x7_ := keepc hb12_ x7_
  have y7_ := keepc hb12_ y7_
  have x8_ := keepc hb12_ x8_
  have y8_ := keepc hb12_ y8_
  have x9_ := keepc hb12_ x9_
  have y9_ := keepc hb12_ y9_
  have GA := hide (GA.out.below hb12_)
  have GB := hide (GB.out.below hb12_)
  have GP := hide (GP.out.below hb12_)
  have GRP := hide (GRP.out.below hb12_)
  have GQ := hide (GQ.out.below hb12_)
  have GRQ := hide (GRQ.out.below hb12_)
  have GT := hide (GT.out.below hb12_)
  have GRT := hide (GRT.out.below hb12_)
  have HE := hide (HE.out.below hb12_)
  have hB := bcall hB hb12_
  have x0p_q : ∀ p : BW w12_, p.w.cell? ⟨w.heap.size, 0, none⟩ = some (.int .i64 n) := fun p => keepc p.b x0p_
  have y0p_q : ∀ p : BW w12_, p.w.cell? ⟨w.heap.size, 1, none⟩ = some (.slice A a.length c) := fun p => keepc p.b y0p_
  have x1p_q : ∀ p : BW w12_, p.w.cell? ⟨w.heap.size + 1, 0, none⟩ = some (.int .i64 m) := fun p => keepc p.b x1p_
  have y1p_q : ∀ p : BW w12_, p.w.cell? ⟨w.heap.size + 1, 1, none⟩ = some (.slice B b.length d) := fun p => keepc p.b y1p_
  have x1_q : ∀ p : BW w12_, p.w.cell? ⟨w1_.heap.size, 0, none⟩ = some (.int .i64 n) := fun p => keepc p.b x1_
  have y1_q : ∀ p : BW w12_, p.w.cell? ⟨w1_.heap.size, 1, none⟩ = some (.slice A a.length c) := fun p => keepc p.b y1_
  have x4_q : ∀ p : BW w12_, p.w.cell? ⟨w4_.heap.size, 0, none⟩ = some (.int .i64 n) := fun p => keepc p.b x4_
  have y4_q : ∀ p : BW w12_, p.w.cell? ⟨w4_.heap.size, 1, none⟩ = some (.slice A4_ a.length c4_) := fun p => keepc p.b y4_
  have x5_q : ∀ p : BW w12_, p.w.cell? ⟨w5_.heap.size, 0, none⟩ = some (.int .i64 n) := fun p => keepc p.b x5_
  have y5_q : ∀ p : BW w12_, p.w.cell? ⟨w5_.heap.size, 1, none⟩ = some (.slice A5_ a.length c5_) := fun p => keepc p.b y5_
  have x6_q : ∀ p : BW w12_, p.w.cell? ⟨w6_.heap.size, 0, none⟩ = some (.int .i64 n) := fun p => keepc p.b x6_
  have y6_q : ∀ p : BW w12_, p.w.cell? ⟨w6_.heap.size, 1, none⟩ = some (.slice A6_ kq c6_) := fun p => keepc p.b y6_
  have x7_q : ∀ p : BW w12_, p.w.cell? ⟨w7_.heap.size, 0, none⟩ = some (.int .i64 n) := fun p => keepc p.b x7_
  have y7_q : ∀ p : BW w12_, p.w.cell? ⟨w7_.heap.size, 1, none⟩ = some (.slice A7_ kq c7_) := fun p => keepc p.b y7_
  have x8_q : ∀ p : BW w12_, p.w.cell? ⟨w8_.heap.size, 0, none⟩ = some (.int .i64 pn) := fun p => keepc p.b x8_
  have y8_q : ∀ p : BW w12_, p.w.cell? ⟨w8_.heap.size, 1, none⟩ = some (.slice A8_ pk c8_) := fun p => keepc p.b y8_
  have x9_q : ∀ p : BW w12_, p.w.cell? ⟨w9_.heap.size, 0, none⟩ = some (.int .i64 pn) := fun p => keepc p.b x9_
  have y9_q : ∀ p : BW w12_, p.w.cell? ⟨w9_.heap.size, 1, none⟩ = some (.slice A9_ pk c9_) := fun p => keepc p.b y9_
  have GAq := hide (fun p : BW w12_ => GA.out.below p.b)
  have GBq := hide (fun p : BW w12_ => GB.out.below p.b)
  have GPq := hide (fun p : BW w12_ => GP.out.below p.b)
  have GRPq := hide (fun p : BW w12_ => GRP.out.below p.b)
  have GQq := hide (fun p : BW w12_ => GQ.out.below p.b)
  have GRQq := hide (fun p : BW w12_ => GRQ.out.below p.b)
  have GTq := hide (fun p : BW w12_ => GT.out.below p.b)
  have GRTq := hide (fun p : BW w12_ => GRT.out.below p.b)
  go_wp2
  refine wp_region_below (by kernel_rfl) (by kernel_rfl) ?_
  repeat (go_big_quiet_step (first | (with_reducible refine below_of (Right_c n _ a _ (GAq.out _) ra H_ra.out)) | (with_reducible refine below_of (rRight_c n _ a _ (GAq.out _) ra H_ra.out)) | (with_reducible refine below_of (Same_c n m _ _ a b _ (GAq.out _) (GBq.out _) sm H_sm.out)) | (with_reducible refine below_of (refHeap_any m B b.length d _)) | (with_reducible refine below_of (rSame_c n m _ _ a b _ (GAq.out _) (GBq.out _) sm H_sm.out)) | (with_reducible refine below_of (Text_c n _ a _ (GAq.out _) tx H_tx.out)) | (with_reducible refine below_of (rText_c n _ a _ (GAq.out _) tx H_tx.out))))
  refine wpQuiet_nil ?_
  intro _ hw'
  obtain ⟨⟨wq_, bq_⟩, hw''⟩ := hw'
  subst hw''
  clear x0p_q y0p_q x1p_q y1p_q x1_q y1_q x4_q y4_q x5_q y5_q x6_q y6_q x7_q y7_q x8_q y8_q x9_q y9_q
  have hB := bcall hB bq_
  go_wp2
  go_ret
  exact ⟨rfl, hB⟩

theorem laid_met (os : Os) : laidMetH Tryd.prog Rows.heapTellsUptoRow.laid ((World.laidAll Tryd.prog os Rows.heapTellsUptoRow.laid).forCall (fun _ _ => 0) ⟨#[], #[.agg #[.int .i64 0, .slice none 0 0], .agg #[.int .i64 0, .slice none 0 0], .int .i64 0, .int .i64 0, .int .i64 0, .int .i64 0, .string .empty], []⟩).memory := by
  rw [MakeChecks.laidMetH_plain _ _ _ (by kernel_rfl)]; exact laidMet_laidAll _ (by kernel_rfl) (by kernel_rfl)
theorem reads (os : Os) {H : Type} (enc : TypeId × Value → H) : ∃ places, DataW.whole enc Tryd.prog ((World.laidAll Tryd.prog os Rows.heapTellsUptoRow.laid).forCall (fun _ _ => 0) ⟨#[], #[.agg #[.int .i64 0, .slice none 0 0], .agg #[.int .i64 0, .slice none 0 0], .int .i64 0, .int .i64 0, .int .i64 0, .int .i64 0, .string .empty], []⟩).memory Tryd.f3.params.toList Rows.heapTellsSpec.vars false (#[.agg #[.int .i64 0, .slice none 0 0], .agg #[.int .i64 0, .slice none 0 0], .int .i64 0, .int .i64 0, .int .i64 0, .int .i64 0, .string .empty] : Array Value).toList 8 = some ([.agg [.lit (.int .i64 0), .nil], .agg [.lit (.int .i64 0), .nil], .lit (.int .i64 0), .lit (.int .i64 0), .lit (.int .i64 0), .lit (.int .i64 0), .lit (.string [])], [], places) :=
  ⟨[], by kernel_rfl⟩
theorem okargs (os : Os) : Input.okWideB Tryd.prog ((World.laidAll Tryd.prog os Rows.heapTellsUptoRow.laid).forCall (fun _ _ => 0) ⟨#[], #[.agg #[.int .i64 0, .slice none 0 0], .agg #[.int .i64 0, .slice none 0 0], .int .i64 0, .int .i64 0, .int .i64 0, .int .i64 0, .string .empty], []⟩) 3 ⟨#[], #[.agg #[.int .i64 0, .slice none 0 0], .agg #[.int .i64 0, .slice none 0 0], .int .i64 0, .int .i64 0, .int .i64 0, .int .i64 0, .string .empty], []⟩ = true := by kernel_rfl
set_option maxRecDepth 100000 in
theorem lifted (os : Os) (started : os.Started) (H : Type) (enc : TypeId × Value → H) (F : Stop.Interp) :
    ReturnsInHanded {} Tryd.checked os 3 .any ((Rows.OpenSpec.upto Rows.heapTellsSpec).preRow enc Tryd.prog Tryd.f3 Rows.heapTellsUptoRow.domain false Rows.heapTellsUptoRow.laid) (((Rows.OpenSpec.upto Rows.heapTellsSpec).at F).post enc Tryd.prog Tryd.f3 false true false false) := by
  obtain ⟨places, hx⟩ := reads os enc
  refine returnsInHanded_of_row (C := Tryd.checked) (s := Rows.OpenSpec.upto Rows.heapTellsSpec) ownL started (by kernel_rfl) Tryd.func3
    ⟨World.laidAll Tryd.prog os Rows.heapTellsUptoRow.laid, fun _ _ => 0, ⟨#[], #[.agg #[.int .i64 0, .slice none 0 0], .agg #[.int .i64 0, .slice none 0 0], .int .i64 0, .int .i64 0, .int .i64 0, .int .i64 0, .string .empty], []⟩, World.laidAll_os _ _ _, World.shaped_of_ZipB (by kernel_rfl) (by kernel_rfl), (Input.okWide_of_okWideB (base := 0) (okargs os)).1, (Input.okWide_of_okWideB (okargs os)).2,
      OpenSpec.preRow_of_cond 8 hx (by kernel_rfl) (fun k hk => by cases hk; kernel_rfl) (by kernel_rfl) (laid_met os), by
        simp only [Assume.holds]
        exact ⟨by simp, by simp, by simp, by simp, by simp⟩⟩ ?_
  intro W base args ds gs before hval hW _ hcond hsz0 hL _ _
  have hk0 := hcond _ rfl
  have hW' := hW
  obtain ⟨p, q, hA0, hV, rfl, hfz, hnd⟩ := hW
  have hA : DataW.TrodAll enc Tryd.prog W 0 (fun _ => true) true Tryd.f3.params.toList args.toList ds p := hA0
  rw [Tryd.params3] at hA hval
  obtain ⟨v0, vs0, d0, ds0, p0, q0, hargs, rfl, rfl, h0, r0⟩ := trodAll_cons hA
  obtain ⟨v1, vs1, d1, ds1, p1, q1, rfl, rfl, rfl, h1, r1⟩ := trodAll_cons r0
  obtain ⟨v2, vs2, d2, ds2, p2, q2, rfl, rfl, rfl, h2, r2⟩ := trodAll_cons r1
  obtain ⟨v3, vs3, d3, ds3, p3, q3, rfl, rfl, rfl, h3, r3⟩ := trodAll_cons r2
  obtain ⟨v4, vs4, d4, ds4, p4, q4, rfl, rfl, rfl, h4, r4⟩ := trodAll_cons r3
  obtain ⟨v5, vs5, d5, ds5, p5, q5, rfl, rfl, rfl, h5, r5⟩ := trodAll_cons r4
  obtain ⟨v6, vs6, d6, ds6, p6, q6, rfl, rfl, rfl, h6, r6⟩ := trodAll_cons r5
  obtain ⟨rfl, rfl, rfl⟩ := trodAll_nil r6
  obtain rfl : args = #[v0, v1, v2, v3, v4, v5, v6] := by cases args; simp_all
  obtain ⟨rfl, rfl⟩ := trodVars_none hV
  obtain ⟨n0, u0, ls0, rfl, hg0, hn0, hr0, hf0⟩ := open_heap (hval 0 24 v0 rfl rfl) h0
  obtain ⟨n1, u1, ls1, rfl, hg1, hn1, hr1, hf1⟩ := open_heap (hval 1 24 v1 rfl rfl) h1
  obtain ⟨a2, rfl, rfl, rfl, w2⟩ := open_int Tryd.underlying3 (hval 2 3 v2 rfl rfl) h2
  have hx2 : -9223372036854775808 ≤ a2 ∧ a2 ≤ 9223372036854775807 := by simpa [Lit.wf, IntKind.min, IntKind.max, IntKind.signed, IntKind.bits] using w2
  obtain ⟨a3, rfl, rfl, rfl, w3⟩ := open_int Tryd.underlying3 (hval 3 3 v3 rfl rfl) h3
  have hx3 : -9223372036854775808 ≤ a3 ∧ a3 ≤ 9223372036854775807 := by simpa [Lit.wf, IntKind.min, IntKind.max, IntKind.signed, IntKind.bits] using w3
  obtain ⟨a4, rfl, rfl, rfl, w4⟩ := open_int Tryd.underlying3 (hval 4 3 v4 rfl rfl) h4
  have hx4 : -9223372036854775808 ≤ a4 ∧ a4 ≤ 9223372036854775807 := by simpa [Lit.wf, IntKind.min, IntKind.max, IntKind.signed, IntKind.bits] using w4
  obtain ⟨a5, rfl, rfl, rfl, w5⟩ := open_int Tryd.underlying3 (hval 5 3 v5 rfl rfl) h5
  have hx5 : -9223372036854775808 ≤ a5 ∧ a5 ≤ 9223372036854775807 := by simpa [Lit.wf, IntKind.min, IntKind.max, IntKind.signed, IntKind.bits] using w5
  obtain ⟨s6, rfl, rfl, rfl, hs6⟩ := Go.ChangeMaps.open_string Tryd.underlying9 (hval 6 9 v6 rfl rfl) h6
  have hk : Rows.uptoBulkAll ([d0, d1, .lit (.int .i64 a2), .lit (.int .i64 a3), .lit (.int .i64 a4), .lit (.int .i64 a5), .lit (.string s6.data.toList)] : List (DataW H)) ≤ 1048576 := of_decide_eq_true hk0
  have hsz : (DataW.weightsEach Tryd.prog [24, 24, 3, 3, 3, 3, 9] ([d0, d1, .lit (.int .i64 a2), .lit (.int .i64 a3), .lit (.int .i64 a4), .lit (.int .i64 a5), .lit (.string s6.data.toList)] : List (DataW H))).all (· ≤ reachBytes) = true := hsz0
  have e0 : Fit ls0 := hf0 fun k hk => by have h1 := List.all_eq_true.1 hsz k (DataW.weights_mem_each (j := 0) rfl rfl k hk); simpa [reachBytes] using of_decide_eq_true h1
  have e1 : Fit ls1 := hf1 fun k hk => by have h1 := List.all_eq_true.1 hsz k (DataW.weights_mem_each (j := 1) rfl rfl k hk); simpa [reachBytes] using of_decide_eq_true h1
  have e6 : s6.size + 1 ≤ 1048576 := by have h1 : s6.data.toList.length = s6.size := (by rw [Array.length_toList]; rfl); have h2 := bulk_mem hk 6 rfl; simp only [Rows.uptoBulk] at h2; omega
  have hE := env_of_laid hL
  refine (walk _ _ _ _ _ _ a2 a3 a4 a5 s6 W hg0 hg1 e0 (by omega) hE).mono fun e W' ⟨he, hg⟩ => ?_
  subst he
  exact ⟨_, rfl, law_post laidOutL (by kernel_rfl) rfl Tryd.underlying4 rfl ⟨rfl, rfl, rfl⟩ hW' hg⟩
theorem row_holds : Rows.HeapTellsUptoSaid :=
  OpenClaim.holds_of_cond 3 Tryd.f3 rfl rfl rfl rfl rfl rfl rfl ⟨rfl, rfl, rfl, rfl, rfl⟩ rfl rfl rfl rfl rfl (by kernel_rfl) Tryd.func3 (by kernel_rfl)
    (of_decide_eq_true (by kernel_rfl)) (by unfold Func.isWrapper; first | (rw [if_pos (by decide +kernel)]; kernel_rfl) | (rw [if_neg (by decide +kernel)]; exact ⟨rfl, rfl⟩))
    (fun os started H enc _ F => by rw [OpenClaim.pre_eq_preRow]; exact lifted os started H enc F)

/-- THE STATEMENT -/
theorem proved : Rows.HeapTellsUptoCardSaid :=
  Claim7.holds_tied_plain_at .later [] Rows.heapTellsUptoCard.laidKinds true Rows.heapTellsUptoCard.stood.harness Rows.heapTellsUptoCard.stood.looks
    row_holds (fun _ h => by cases h) (by kernel_rfl) (fun _ h => by cases h) heapTellsUpto_row_tie rfl ⟨rfl, rfl⟩ (by kernel_rfl) rfl
    (fun f fn hf hfn => by
      obtain rfl : f = 3 := Option.some.inj ((show Tryd.prog.funcNamed Rows.heapTellsUptoRow.func = some 3 by kernel_rfl).symm.trans hf) |>.symm
      obtain rfl : fn = Tryd.f3 := (Option.some.inj (Tryd.func3.symm.trans hfn)).symm
      exact ⟨by kernel_rfl, fun j t ht => by
        rw [Tryd.params3] at ht
        have hm : t ∈ [24, 24, 3, 3, 3, 3, 9] := by simpa using Array.mem_of_getElem? ht
        have hall : ([24, 24, 3, 3, 3, 3, 9].all fun u => !Tryd.prog.wantsStandIn u) = true := by kernel_rfl
        exact (show Tryd.prog.wantsStandIn t = false by simpa using List.all_eq_true.1 hall t hm)⟩)
    (by kernel_rfl)
end Go.Proofs.YtofobjhlpgcdaaaDoor.lawHeapTells
