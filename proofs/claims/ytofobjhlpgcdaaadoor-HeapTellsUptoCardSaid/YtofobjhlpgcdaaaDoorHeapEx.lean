/- Layer heap: the chapter's examples, as the statements ask them first. -/
import Derived.Test.YtofobjhlpgcdaaaDoorHeapUse
namespace Go.Proofs.YtofobjhlpgcdaaaDoor
open Go.RowKit Go.Shelf Go.Proofs

set_option maxRecDepth 100000 in
set_option maxHeartbeats 8000000 in
theorem examples_any (w : World) (hE : EnvH w) : Calls Tryd.prog 4 #[] w fun e w' => e = .returned (.bool true) ∧ Below w.heap.size w w' := by
  obtain ⟨S, hS⟩ : ∃ S, exLS = S := ⟨_, rfl⟩
  obtain ⟨P, hP⟩ : ∃ P, exLP = P := ⟨_, rfl⟩
  obtain ⟨N, hN⟩ : ∃ N, exLN = N := ⟨_, rfl⟩
  have hu2 := hide (show putF S 2 1 1 = P by subst hS hP hN; exact exU2)
  have hu1 := hide (show putOk S 2 1 1 = true by subst hS hP hN; exact exU1)
  have hu3 := hide (show putOk S 2 1 3 = false by subst hS hP hN; exact exU3)
  have hu4 := hide (show putF S 2 1 3 = S by subst hS hP hN; exact exU4)
  have ha1 := hide (show allocE 2 S 3 = 0 by subst hS hP hN; exact exA1)
  have ha2 := hide (show allocN 2 S 3 = 3 by subst hS hP hN; exact exA2)
  have ha3 := hide (show allocF 2 S 3 = N by subst hS hP hN; exact exA3)
  have ha4 := hide (show allocE 2 S 2 = 4 by subst hS hP hN; exact exA4)
  have ha5 := hide (show allocN 2 S 2 = 0 by subst hS hP hN; exact exA5)
  have ha6 := hide (show allocF 2 S 2 = S by subst hS hP hN; exact exA6)
  have hg1 := hide (show getF S 1 0 = 2 by subst hS hP hN; exact exG1)
  have hg2 := hide (show hasS S 1 0 = true by subst hS hP hN; exact exG2)
  have hg3 := hide (show getF S 3 0 = 0 by subst hS hP hN; exact exG3)
  have hg4 := hide (show hasS S 3 0 = false by subst hS hP hN; exact exG4)
  have htp := hide (show textF 2 P = (⟨#[50, 124, 50, 44, 48, 124, 49, 44, 49]⟩ : ByteArray).data.toList by subst hS hP hN; exact exTP)
  have hts := hide (show textF 2 S = (⟨#[50, 124, 50, 44, 48, 124, 49, 44, 50]⟩ : ByteArray).data.toList by subst hS hP hN; exact exTS)
  have htn := hide (show textF 2 N = (⟨#[50, 124, 50, 44, 48, 124, 49, 44, 50, 124, 48, 44, 48]⟩ : ByteArray).data.toList by subst hS hP hN; exact exTN)
  have hr := hide (show rightF 2 S = true by subst hS hP hN; exact exR)
  have hs1 := hide (show sameF 2 S 2 S = true by subst hS hP hN; exact exS1)
  have hs2 := hide (show sameF 2 S 2 P = false by subst hS hP hN; exact exS2)
  have hF := hide (show Fit S by subst hS hP hN; exact exF)
  have hp1 : heapF (⟨#[50, 124, 50, 44, 48, 124, 49, 44, 50]⟩ : ByteArray).data.toList = some (2, S) := by subst hS; exact exP1
  have hp1 := hide hp1
  have hSl : S.length = 2 := by subst hS; rfl
  have hNl : N.length = 3 := by subst hN; rfl
  have hSl := hide hSl
  have hNl := hide hNl
  have HE := hide hE
  have hB : Below w.heap.size w w := Below.refl _ _
  clear hS hP hN hE
  go_enter Tryd.func4, Tryd.ntmps4
  go_wp2_with fail
  (with_reducible refine (Parse_c _ _ (by decide) HE.out 2 S 0 (.inl ⟨hp1.out, rfl⟩) 2 hSl.out).mono ?_)
  rintro e w0_ ⟨A0_, c0_, rfl, p0_, q0_, GS, hb0_⟩
  have HE := hide (HE.out.below hb0_)
  have hB := bcall hB hb0_
  have GS := hide GS.out.grid
  obtain ⟨wb0_, eb0_, hbb0_, hlt0_, -, x0_, y0_⟩ := box1 w0_ (.int .i64 2) (.slice A0_ 2 c0_) 24
  have HEB0_ := hide eb0_
  clear eb0_
  have GS := hide (GS.out.below hbb0_)
  have HE := hide (HE.out.below hbb0_)
  have hB := bcall hB hbb0_
  go_wp2_with fail
  rw [HEB0_.out]
  (with_reducible refine (Parse_c _ _ (by decide) HE.out 0 [] 2 (.inr ⟨exP2, rfl, rfl, rfl⟩) 0 rfl).mono ?_)
  rintro e w1_ ⟨A1_, c1_, rfl, p1_, q1_, G1, hb1_⟩
  have x0_ := keepc hb1_ x0_
  have y0_ := keepc hb1_ y0_
  have GS := hide (GS.out.below hb1_)
  have HE := hide (HE.out.below hb1_)
  have hB := bcall hB hb1_
  have G1 := hide G1.out.grid
  obtain ⟨wb1_, eb1_, hbb1_, hlt1_, -, x1_, y1_⟩ := box1 w1_ (.int .i64 0) (.slice A1_ 0 c1_) 24
  have HEB1_ := hide eb1_
  clear eb1_
  have x0_a := fun o => keepc (bal w1_ o) x0_
  have y0_a := fun o => keepc (bal w1_ o) y0_
  have x0_ := keepc hbb1_ x0_
  have y0_ := keepc hbb1_ y0_
  have GS := hide (GS.out.below hbb1_)
  have G1 := hide (G1.out.below hbb1_)
  have HE := hide (HE.out.below hbb1_)
  have hB := bcall hB hbb1_
  go_wp2_with fail
  rw [HEB1_.out]
  clear x0_a y0_a
  (with_reducible refine (Parse_c _ _ (by decide) HE.out 0 [] 2 (.inr ⟨heapF_wrong, rfl, rfl, rfl⟩) 0 rfl).mono ?_)
  rintro e w2_ ⟨A2_, c2_, rfl, p2_, q2_, G2, hb2_⟩
  have x0_ := keepc hb2_ x0_
  have y0_ := keepc hb2_ y0_
  have x1_ := keepc hb2_ x1_
  have y1_ := keepc hb2_ y1_
  have GS := hide (GS.out.below hb2_)
  have G1 := hide (G1.out.below hb2_)
  have HE := hide (HE.out.below hb2_)
  have hB := bcall hB hb2_
  have G2 := hide G2.out.grid
  obtain ⟨wb2_, eb2_, hbb2_, hlt2_, -, x2_, y2_⟩ := box1 w2_ (.int .i64 0) (.slice A2_ 0 c2_) 24
  have HEB2_ := hide eb2_
  clear eb2_
  have x0_a := fun o => keepc (bal w2_ o) x0_
  have y0_a := fun o => keepc (bal w2_ o) y0_
  have x1_a := fun o => keepc (bal w2_ o) x1_
  have y1_a := fun o => keepc (bal w2_ o) y1_
  have x0_ := keepc hbb2_ x0_
  have y0_ := keepc hbb2_ y0_
  have x1_ := keepc hbb2_ x1_
  have y1_ := keepc hbb2_ y1_
  have GS := hide (GS.out.below hbb2_)
  have G1 := hide (G1.out.below hbb2_)
  have G2 := hide (G2.out.below hbb2_)
  have HE := hide (HE.out.below hbb2_)
  have hB := bcall hB hbb2_
  go_wp2_with fail
  rw [HEB2_.out]
  clear x0_a y0_a x1_a y1_a
  (with_reducible refine (Get_c 2 _ S 1 0 _ GS.out 2 hg1.out true hg2.out).mono ?_)
  rintro e w3_ ⟨rfl, hb3_⟩
  have x0_ := keepc hb3_ x0_
  have y0_ := keepc hb3_ y0_
  have x1_ := keepc hb3_ x1_
  have y1_ := keepc hb3_ y1_
  have x2_ := keepc hb3_ x2_
  have y2_ := keepc hb3_ y2_
  have GS := hide (GS.out.below hb3_)
  have hB := bcall hB hb3_
  go_wp2_with fail
  (with_reducible refine (Get_c 2 _ S 3 0 _ GS.out 0 hg3.out false hg4.out).mono ?_)
  rintro e w4_ ⟨rfl, hb4_⟩
  have x0_ := keepc hb4_ x0_
  have y0_ := keepc hb4_ y0_
  have x1_ := keepc hb4_ x1_
  have y1_ := keepc hb4_ y1_
  have x2_ := keepc hb4_ x2_
  have y2_ := keepc hb4_ y2_
  have GS := hide (GS.out.below hb4_)
  have hB := bcall hB hb4_
  go_wp2_with fail
  (with_reducible refine (Put_c 2 _ S 2 1 1 _ GS.out hF.out 2 hSl.out P hu2.out true hu1.out).mono ?_)
  rintro e w5_ ⟨A5_, c5_, rfl, p5_, q5_, GP, hb5_⟩
  have x0_ := keepc hb5_ x0_
  have y0_ := keepc hb5_ y0_
  have x1_ := keepc hb5_ x1_
  have y1_ := keepc hb5_ y1_
  have x2_ := keepc hb5_ x2_
  have y2_ := keepc hb5_ y2_
  have GS := hide (GS.out.below hb5_)
  have hB := bcall hB hb5_
  have GP := hide GP.out.grid
  obtain ⟨wb5_, eb5_, hbb5_, hlt5_, -, x5_, y5_⟩ := box1 w5_ (.int .i64 2) (.slice A5_ 2 c5_) 24
  have HEB5_ := hide eb5_
  clear eb5_
  have x0_a := fun o => keepc (bal w5_ o) x0_
  have y0_a := fun o => keepc (bal w5_ o) y0_
  have x1_a := fun o => keepc (bal w5_ o) x1_
  have y1_a := fun o => keepc (bal w5_ o) y1_
  have x2_a := fun o => keepc (bal w5_ o) x2_
  have y2_a := fun o => keepc (bal w5_ o) y2_
  have x0_ := keepc hbb5_ x0_
  have y0_ := keepc hbb5_ y0_
  have x1_ := keepc hbb5_ x1_
  have y1_ := keepc hbb5_ y1_
  have x2_ := keepc hbb5_ x2_
  have y2_ := keepc hbb5_ y2_
  have GS := hide (GS.out.below hbb5_)
  have GP := hide (GP.out.below hbb5_)
  have hB := bcall hB hbb5_
  go_wp2_with fail
  rw [HEB5_.out]
  clear x0_a y0_a x1_a y1_a x2_a y2_a
  (with_reducible refine (Put_c 2 _ S 2 1 3 _ GS.out hF.out 2 hSl.out S hu4.out false hu3.out).mono ?_)
  rintro e w6_ ⟨A6_, c6_, rfl, p6_, q6_, G3, hb6_⟩
  have x0_ := keepc hb6_ x0_
  have y0_ := keepc hb6_ y0_
  have x1_ := keepc hb6_ x1_
  have y1_ := keepc hb6_ y1_
  have x2_ := keepc hb6_ x2_
  have y2_ := keepc hb6_ y2_
  have x5_ := keepc hb6_ x5_
  have y5_ := keepc hb6_ y5_
  have GS := hide (GS.out.below hb6_)
  have GP := hide (GP.out.below hb6_)
  have hB := bcall hB hb6_
  have G3 := hide G3.out.grid
  obtain ⟨wb6_, eb6_, hbb6_, hlt6_, -, x6_, y6_⟩ := box1 w6_ (.int .i64 2) (.slice A6_ 2 c6_) 24
  have HEB6_ := hide eb6_
  clear eb6_
  have x0_a := fun o => keepc (bal w6_ o) x0_
  have y0_a := fun o => keepc (bal w6_ o) y0_
  have x1_a := fun o => keepc (bal w6_ o) x1_
  have y1_a := fun o => keepc (bal w6_ o) y1_
  have x2_a := fun o => keepc (bal w6_ o) x2_
  have y2_a := fun o => keepc (bal w6_ o) y2_
  have x5_a := fun o => keepc (bal w6_ o) x5_
  have y5_a := fun o => keepc (bal w6_ o) y5_
  have x0_ := keepc hbb6_ x0_
  have y0_ := keepc hbb6_ y0_
  have x1_ := keepc hbb6_ x1_
  have y1_ := keepc hbb6_ y1_
  have x2_ := keepc hbb6_ x2_
  have y2_ := keepc hbb6_ y2_
  have x5_ := keepc hbb6_ x5_
  have y5_ := keepc hbb6_ y5_
  have GS := hide (GS.out.below hbb6_)
  have GP := hide (GP.out.below hbb6_)
  have G3 := hide (G3.out.below hbb6_)
  have hB := bcall hB hbb6_
  go_wp2_with fail
  rw [HEB6_.out]
  clear x0_a y0_a x1_a y1_a x2_a y2_a x5_a y5_a
  (with_reducible refine (Alloc_c 2 _ S 3 _ GS.out hF.out N ha3.out 3 hNl.out 3 ha2.out 0 ha1.out).mono ?_)
  rintro e w7_ ⟨A7_, c7_, rfl, p7_, q7_, GN, hb7_⟩
  have x0_ := keepc hb7_ x0_
  have y0_ := keepc hb7_ y0_
  have x1_ := keepc hb7_ x1_
  have y1_ := keepc hb7_ y1_
  have x2_ := keepc hb7_ x2_
  have y2_ := keepc hb7_ y2_
  have x5_ := keepc hb7_ x5_
  have y5_ := keepc hb7_ y5_
  have x6_ := keepc hb7_ x6_
  have y6_ := keepc hb7_ y6_
  have GS := hide (GS.out.below hb7_)
  have GP := hide (GP.out.below hb7_)
  have hB := bcall hB hb7_
  have GN := hide GN.out.grid
  obtain ⟨wb7_, eb7_, hbb7_, hlt7_, -, x7_, y7_⟩ := box1 w7_ (.int .i64 2) (.slice A7_ 3 c7_) 24
  have HEB7_ := hide eb7_
  clear eb7_
  have x0_a := fun o => keepc (bal w7_ o) x0_
  have y0_a := fun o => keepc (bal w7_ o) y0_
  have x1_a := fun o => keepc (bal w7_ o) x1_
  have y1_a := fun o => keepc (bal w7_ o) y1_
  have x2_a := fun o => keepc (bal w7_ o) x2_
  have y2_a := fun o => keepc (bal w7_ o) y2_
  have x5_a := fun o => keepc (bal w7_ o) x5_
  have y5_a := fun o => keepc (bal w7_ o) y5_
  have x6_a := fun o => keepc (bal w7_ o) x6_
  have y6_a := fun o => keepc (bal w7_ o) y6_
  have x0_ := keepc hbb7_ x0_
  have y0_ := keepc hbb7_ y0_
  have x1_ := keepc hbb7_ x1_
  have y1_ := keepc hbb7_ y1_
  have x2_ := keepc hbb7_ x2_
  have y2_ := keepc hbb7_ y2_
  have x5_ := keepc hbb7_ x5_
  have y5_ := keepc hbb7_ y5_
  have x6_ := keepc hbb7_ x6_
  have y6_ := keepc hbb7_ y6_
  have GS := hide (GS.out.below hbb7_)
  have GP := hide (GP.out.below hbb7_)
  have GN := hide (GN.out.below hbb7_)
  have hB := bcall hB hbb7_
  go_wp2_with fail
  rw [HEB7_.out]
  clear x0_a y0_a x1_a y1_a x2_a y2_a x5_a y5_a x6_a y6_a
  (with_reducible refine (Alloc_c 2 _ S 2 _ GS.out hF.out S ha6.out 2 hSl.out 0 ha5.out 4 ha4.out).mono ?_)
  rintro e w8_ ⟨A8_, c8_, rfl, p8_, q8_, G4, hb8_⟩
  have x0_ := keepc hb8_ x0_
  have y0_ := keepc hb8_ y0_
  have x1_ := keepc hb8_ x1_
  have y1_ := keepc hb8_ y1_
  have x2_ := keepc hb8_ x2_
  have y2_ := keepc hb8_ y2_
  have x5_ := keepc hb8_ x5_
  have y5_ := keepc hb8_ y5_
  have x6_ := keepc hb8_ x6_
  have y6_ := keepc hb8_ y6_
  have x7_ := keepc hb8_ x7_
  have y7_ := keepc hb8_ y7_
  have GS := hide (GS.out.below hb8_)
  have GP := hide (GP.out.below hb8_)
  have GN := hide (GN.out.below hb8_)
  have hB := bcall hB hb8_
  have G4 := hide G4.out.grid
  obtain ⟨wb8_, eb8_, hbb8_, hlt8_, -, x8_, y8_⟩ := box1 w8_ (.int .i64 2) (.slice A8_ 2 c8_) 24
  have HEB8_ := hide eb8_
  clear eb8_
  have x0_a := fun o => keepc (bal w8_ o) x0_
  have y0_a := fun o => keepc (bal w8_ o) y0_
  have x1_a := fun o => keepc (bal w8_ o) x1_
  have y1_a := fun o => keepc (bal w8_ o) y1_
  have x2_a := fun o => keepc (bal w8_ o) x2_
  have y2_a := fun o => keepc (bal w8_ o) y2_
  have x5_a := fun o => keepc (bal w8_ o) x5_
  have y5_a := fun o => keepc (bal w8_ o) y5_
  have x6_a := fun o => keepc (bal w8_ o) x6_
  have y6_a := fun o => keepc (bal w8_ o) y6_
  have x7_a := fun o => keepc (bal w8_ o) x7_
  have y7_a := fun o => keepc (bal w8_ o) y7_
  have x0_ := keepc hbb8_ x0_
  have y0_ := keepc hbb8_ y0_
  have x1_ := keepc hbb8_ x1_
  have y1_ := keepc hbb8_ y1_
  have x2_ := keepc hbb8_ x2_
  have y2_ := keepc hbb8_ y2_
  have x5_ := keepc hbb8_ x5_
  have y5_ := keepc hbb8_ y5_
  have x6_ := keepc hbb8_ x6_
  have y6_ := keepc hbb8_ y6_
  have x7_ := keepc hbb8_ x7_
  have y7_ := keepc hbb8_ y7_
  have GS := hide (GS.out.below hbb8_)
  have GP := hide (GP.out.below hbb8_)
  have GN := hide (GN.out.below hbb8_)
  have G4 := hide (G4.out.below hbb8_)
  have hB := bcall hB hbb8_
  go_wp2_with fail
  rw [HEB8_.out]
  clear x0_a y0_a x1_a y1_a x2_a y2_a x5_a y5_a x6_a y6_a x7_a y7_a
  (with_reducible refine (Alloc_c 0 _ [] 2 _ Grid.nil_ exF0 [] exA9 0 rfl 0 exA8 1 exA7).mono ?_)
  rintro e w9_ ⟨A9_, c9_, rfl, p9_, q9_, G5, hb9_⟩
  have x0_ := keepc hb9_ x0_
  have y0_ := keepc hb9_ y0_
  have x1_ := keepc hb9_ x1_
  have y1_ := keepc hb9_ y1_
  have x2_ := keepc hb9_ x2_
  have y2_ := keepc hb9_ y2_
  have x5_ := keepc hb9_ x5_
  have y5_ := keepc hb9_ y5_
  have x6_ := keepc hb9_ x6_
  have y6_ := keepc hb9_ y6_
  have x7_ := keepc hb9_ x7_
  have y7_ := keepc hb9_ y7_
  have x8_ := keepc hb9_ x8_
  have y8_ := keepc hb9_ y8_
  have GS := hide (GS.out.below hb9_)
  have GP := hide (GP.out.below hb9_)
  have GN := hide (GN.out.below hb9_)
  have hB := bcall hB hb9_
  have G5 := hide G5.out.grid
  obtain ⟨wb9_, eb9_, hbb9_, hlt9_, -, x9_, y9_⟩ := box1 w9_ (.int .i64 0) (.slice A9_ 0 c9_) 24
  have HEB9_ := hide eb9_
  clear eb9_
  have x0_a := fun o => keepc (bal w9_ o) x0_
  have y0_a := fun o => keepc (bal w9_ o) y0_
  have x1_a := fun o => keepc (bal w9_ o) x1_
  have y1_a := fun o => keepc (bal w9_ o) y1_
  have x2_a := fun o => keepc (bal w9_ o) x2_
  have y2_a := fun o => keepc (bal w9_ o) y2_
  have x5_a := fun o => keepc (bal w9_ o) x5_
  have y5_a := fun o => keepc (bal w9_ o) y5_
  have x6_a := fun o => keepc (bal w9_ o) x6_
  have y6_a := fun o => keepc (bal w9_ o) y6_
  have x7_a := fun o => keepc (bal w9_ o) x7_
  have y7_a := fun o => keepc (bal w9_ o) y7_
  have x8_a := fun o => keepc (bal w9_ o) x8_
  have y8_a := fun o => keepc (bal w9_ o) y8_
  have x0_ := keepc hbb9_ x0_
  have y0_ := keepc hbb9_ y0_
  have x1_ := keepc hbb9_ x1_
  have y1_ := keepc hbb9_ y1_
  have x2_ := keepc hbb9_ x2_
  have y2_ := keepc hbb9_ y2_
  have x5_ := keepc hbb9_ x5_
  have y5_ := keepc hbb9_ y5_
  have x6_ := keepc hbb9_ x6_
  have y6_ := keepc hbb9_ y6_
  have x7_ := keepc hbb9_ x7_
  have y7_ := keepc hbb9_ y7_
  have x8_ := keepc hbb9_ x8_
  have y8_ := keepc hbb9_ y8_
  have GS := hide (GS.out.below hbb9_)
  have GP := hide (GP.out.below hbb9_)
  have GN := hide (GN.out.below hbb9_)
  have G5 := hide (G5.out.below hbb9_)
  have hB := bcall hB hbb9_
  go_wp2_with fail
  rw [HEB9_.out]
  clear x0_a y0_a x1_a y1_a x2_a y2_a x5_a y5_a x6_a y6_a x7_a y7_a x8_a y8_a
  (with_reducible refine (Text_c 2 _ P _ GP.out ⟨#[50, 124, 50, 44, 48, 124, 49, 44, 49]⟩ htp.out).mono ?_)
  rintro e w10_ ⟨rfl, hb10_⟩
  have x0_ := keepc hb10_ x0_
  have y0_ := keepc hb10_ y0_
  have x1_ := keepc hb10_ x1_
  have y1_ := keepc hb10_ y1_
  have x2_ := keepc hb10_ x2_
  have y2_ := keepc hb10_ y2_
  have x5_ := keepc hb10_ x5_
  have y5_ := keepc hb10_ y5_
  have x6_ := keepc hb10_ x6_
  have y6_ := keepc hb10_ y6_
  have x7_ := keepc hb10_ x7_
  have y7_ := keepc hb10_ y7_
  have x8_ := keepc hb10_ x8_
  have y8_ := keepc hb10_ y8_
  have x9_ := keepc hb10_ x9_
  have y9_ := keepc hb10_ y9_
  have GS := hide (GS.out.below hb10_)
  have GP := hide (GP.out.below hb10_)
  have GN := hide (GN.out.below hb10_)
  have hB := bcall hB hb10_
  go_wp2_with fail
  (with_reducible refine (Text_c 2 _ S _ GS.out ⟨#[50, 124, 50, 44, 48, 124, 49, 44, 50]⟩ hts.out).mono ?_)
  rintro e w11_ ⟨rfl, hb11_⟩
  have x0_ := keepc hb11_ x0_
  have y0_ := keepc hb11_ y0_
  have x1_ := keepc hb11_ x1_
  have y1_ := keepc hb11_ y1_
  have x2_ := keepc hb11_ x2_
  have y2_ := keepc hb11_ y2_
  have x5_ := keepc hb11_ x5_
  have y5_ := keepc hb11_ y5_
  have x6_ := keepc hb11_ x6_
  have y6_ := keepc hb11_ y6_
  have x7_ := keepc hb11_ x7_
  have y7_ := keepc hb11_ y7_
  have x8_ := keepc hb11_ x8_
  have y8_ := keepc hb11_ y8_
  have x9_ := keepc hb11_ x9_
  have y9_ := keepc hb11_ y9_
  have GS := hide (GS.out.below hb11_)
  have GP := hide (GP.out.below hb11_)
  have GN := hide (GN.out.below hb11_)
  have hB := bcall hB hb11_
  go_wp2_with fail
  (with_reducible refine (Text_c 2 _ N _ GN.out ⟨#[50, 124, 50, 44, 48, 124, 49, 44, 50, 124, 48, 44, 48]⟩ htn.out).mono ?_)
  rintro e w12_ ⟨rfl, hb12_⟩
  have x0_ := keepc hb12_ x0_
  have y0_ := keepc hb12_ y0_
  have x1_ := keepc hb12_ x1_
  have y1_ := keepc hb12_ y1_
  have x2_ := keepc hb12_ x2_
  have y2_ := keepc hb12_ y2_
  have x5_ := keepc hb12_ x5_
  have y5_ := keepc hb12_ y5_
  have x6_ := keepc hb12_ x6_
  have y6_ := keepc hb12_ y6_
  have x7_ := keepc hb12_ x7_
  have y7_ := keepc hb12_ y7_
  have x8_ := keepc hb12_ x8_
  have y8_ := keepc hb12_ y8_
  have x9_ := keepc hb12_ x9_
  have y9_ := keepc hb12_ y9_
  have GS := hide (GS.out.below hb12_)
  have GP := hide (GP.out.below hb12_)
  have GN := hide (GN.out.below hb12_)
  have hB := bcall hB hb12_
  go_wp2_with fail
  (with_reducible refine (Right_c 2 _ S _ GS.out true hr.out).mono ?_)
  rintro e w13_ ⟨rfl, hb13_⟩
  have x0_ := keepc hb13_ x0_
  have y0_ := keepc hb13_ y0_
  have x1_ := keepc hb13_ x1_
  have y1_ := keepc hb13_ y1_
  have x2_ := keepc hb13_ x2_
  have y2_ := keepc hb13_ y2_
  have x5_ := keepc hb13_ x5_
  have y5_ := keepc hb13_ y5_
  have x6_ := keepc hb13_ x6_
  have y6_ := keepc hb13_ y6_
  have x7_ := keepc hb13_ x7_
  have y7_ := keepc hb13_ y7_
  have x8_ := keepc hb13_ x8_
  have y8_ := keepc hb13_ y8_
  have x9_ := keepc hb13_ x9_
  have y9_ := keepc hb13_ y9_
  have GS := hide (GS.out.below hb13_)
  have GP := hide (GP.out.below hb13_)
  have GN := hide (GN.out.below hb13_)
  have hB := bcall hB hb13_
  go_wp2_with fail
  (with_reducible refine (Text_c 0 _ [] _ Grid.nil_ ⟨#[63]⟩ exT0).mono ?_)
  rintro e w14_ ⟨rfl, hb14_⟩
  have x0_ := keepc hb14_ x0_
  have y0_ := keepc hb14_ y0_
  have x1_ := keepc hb14_ x1_
  have y1_ := keepc hb14_ y1_
  have x2_ := keepc hb14_ x2_
  have y2_ := keepc hb14_ y2_
  have x5_ := keepc hb14_ x5_
  have y5_ := keepc hb14_ y5_
  have x6_ := keepc hb14_ x6_
  have y6_ := keepc hb14_ y6_
  have x7_ := keepc hb14_ x7_
  have y7_ := keepc hb14_ y7_
  have x8_ := keepc hb14_ x8_
  have y8_ := keepc hb14_ y8_
  have x9_ := keepc hb14_ x9_
  have y9_ := keepc hb14_ y9_
  have GS := hide (GS.out.below hb14_)
  have GP := hide (GP.out.below hb14_)
  have GN := hide (GN.out.below hb14_)
  have hB := bcall hB hb14_
  go_wp2_with fail
  (with_reducible refine (Same_c 2 2 _ _ S S _ GS.out GS.out true hs1.out).mono ?_)
  rintro e w15_ ⟨rfl, hb15_⟩
  have x0_ := keepc hb15_ x0_
  have y0_ := keepc hb15_ y0_
  have x1_ := keepc hb15_ x1_
  have y1_ := keepc hb15_ y1_
  have x2_ := keepc hb15_ x2_
  have y2_ := keepc hb15_ y2_
  have x5_ := keepc hb15_ x5_
  have y5_ := keepc hb15_ y5_
  have x6_ := keepc hb15_ x6_
  have y6_ := keepc hb15_ y6_
  have x7_ := keepc hb15_ x7_
  have y7_ := keepc hb15_ y7_
  have x8_ := keepc hb15_ x8_
  have y8_ := keepc hb15_ y8_
  have x9_ := keepc hb15_ x9_
  have y9_ := keepc hb15_ y9_
  have GS := hide (GS.out.below hb15_)
  have GP := hide (GP.out.below hb15_)
  have GN := hide (GN.out.below hb15_)
  have hB := bcall hB hb15_
  go_wp2_with fail
  (with_reducible refine (Same_c 2 2 _ _ S P _ GS.out GP.out false hs2.out).mono ?_)
  rintro e w16_ ⟨rfl, hb16_⟩
  have x0_ := keepc hb16_ x0_
  have y0_ := keepc hb16_ y0_
  have x1_ := keepc hb16_ x1_
  have y1_ := keepc hb16_ y1_
  have x2_ := keepc hb16_ x2_
  have y2_ := keepc hb16_ y2_
  have x5_ := keepc hb16_ x5_
  have y5_ := keepc hb16_ y5_
  have x6_ := keepc hb16_ x6_
  have y6_ := keepc hb16_ y6_
  have x7_ := keepc hb16_ x7_
  have y7_ := keepc hb16_ y7_
  have x8_ := keepc hb16_ x8_
  have y8_ := keepc hb16_ y8_
  have x9_ := keepc hb16_ x9_
  have y9_ := keepc hb16_ y9_
  have GS := hide (GS.out.below hb16_)
  have GP := hide (GP.out.below hb16_)
  have GN := hide (GN.out.below hb16_)
  have hB := bcall hB hb16_
  go_wp2
  go_ret
  exact ⟨rfl, hB⟩
end Go.Proofs.YtofobjhlpgcdaaaDoor
