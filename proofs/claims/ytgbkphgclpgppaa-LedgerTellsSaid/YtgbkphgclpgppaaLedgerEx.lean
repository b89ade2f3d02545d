/- Layer ledger: the chapter's examples, as the statements ask them first. -/
import Derived.Test.YtgbkphgclpgppaaLedgerUse
namespace Go.Proofs.Ytgbkphgclpgppaa
open Go.RowKit

set_option maxRecDepth 100000 in
set_option maxHeartbeats 8000000 in
theorem examples_any (w : World) : Calls Try.prog 9 #[] w fun e w' => e = .returned (.bool true) ∧ Below w.heap.size w w' := by
  have hB : Below w.heap.size w w := Below.refl _ _
  have fb := field_bal
  go_enter Try.func9, Try.ntmps9
  go_wp2_with fail
  (with_reducible refine (New_c 2 [0, 0] 2 rfl rfl _).mono ?_)
  rintro e w1 ⟨A1, c1, rfl, p1, GL, hb1⟩
  replace hB := bcall hB hb1
  have hs1 := hb1.size
  clear hb1
  have GL := hide GL
  obtain ⟨w2, e2, hb2, hs2, BL⟩ := lbox w1 (0) (0) (0) (.slice A1 2 c1) 24
  have HE2 := hide e2
  have BL := hide BL
  clear e2
  replace GL := hide (GL.out.below hb2)
  replace hB := bcall hB hb2
  clear hb2
  go_upto_region 2 with (fail)
  rw [HE2.out]
  obtain ⟨BL0, BL1, BL2, BL3⟩ := BL.out.all
  go_wp2_with fail
  clear BL0 BL1 BL2 BL3
  (with_reducible refine (Earn_c (0) (0) (0) _ [0, 0] 0 _ GL.out (by decide) 1 0 1 [0, 0] 2 (by kernel_rfl) rfl).mono ?_)
  rintro e w3 ⟨A3, c3, rfl, p3, GE, hb3⟩
  replace BL := hide (BL.out.below hb3)
  replace GL := hide (GL.out.below hb3)
  replace hB := bcall hB hb3
  have hs3 := hb3.size
  clear hb3
  have GE := hide GE
  go_wp2_with fail
  (with_reducible refine (Earn_c (1) (0) (1) _ [0, 0] 1 _ GE.out (by decide) 2 0 1 [1, 0] 2 (by kernel_rfl) rfl).mono ?_)
  rintro e w4 ⟨A4, c4, rfl, p4, GA, hb4⟩
  replace BL := hide (BL.out.below hb4)
  replace GL := hide (GL.out.below hb4)
  replace GE := hide (GE.out.below hb4)
  replace hB := bcall hB hb4
  have hs4 := hb4.size
  clear hb4
  have GA := hide GA
  obtain ⟨w5, e5, hb5, hs5, BA⟩ := lbox w4 (2) (0) (1) (.slice A4 2 c4) 24
  have HE5 := hide e5
  have BA := hide BA
  clear e5
  replace BL := hide (BL.out.below hb5)
  replace GL := hide (GL.out.below hb5)
  replace GE := hide (GE.out.below hb5)
  replace GA := hide (GA.out.below hb5)
  replace hB := bcall hB hb5
  clear hb5
  go_upto_region 3 with (fail)
  rw [HE5.out]
  obtain ⟨BL0, BL1, BL2, BL3⟩ := BL.out.all
  go_wp2_with fail
  clear BL0 BL1 BL2 BL3
  (with_reducible refine (Spend_c (0) (0) (0) _ [0, 0] 1 3 3 _ GL.out (by decide) 0 3 0 [-3, 0] 2 true (by kernel_rfl) (by kernel_rfl) rfl).mono ?_)
  rintro e w6 ⟨A6, c6, rfl, p6, GS, hb6⟩
  replace BL := hide (BL.out.below hb6)
  replace BA := hide (BA.out.below hb6)
  replace GL := hide (GL.out.below hb6)
  replace GE := hide (GE.out.below hb6)
  replace GA := hide (GA.out.below hb6)
  replace hB := bcall hB hb6
  have hs6 := hb6.size
  clear hb6
  have GS := hide GS
  obtain ⟨w7, e7, hb7, hs7, BS⟩ := lbox w6 (0) (3) (0) (.slice A6 2 c6) 24
  have HE7 := hide e7
  have BS := hide BS
  clear e7
  replace BL := hide (BL.out.below hb7)
  replace BA := hide (BA.out.below hb7)
  replace GL := hide (GL.out.below hb7)
  replace GE := hide (GE.out.below hb7)
  replace GA := hide (GA.out.below hb7)
  replace GS := hide (GS.out.below hb7)
  replace hB := bcall hB hb7
  clear hb7
  go_upto_region 4 with (fail)
  rw [HE7.out]
  obtain ⟨BL0, BL1, BL2, BL3⟩ := BL.out.all
  go_wp2_with fail
  clear BL0 BL1 BL2 BL3
  (with_reducible refine (Spend_c (0) (0) (0) _ [0, 0] 1 5 3 _ GL.out (by decide) 0 0 0 [0, 0] 2 false (by kernel_rfl) (by kernel_rfl) rfl).mono ?_)
  rintro e w8 ⟨A8, c8, rfl, p8, GN, hb8⟩
  replace BL := hide (BL.out.below hb8)
  replace BA := hide (BA.out.below hb8)
  replace BS := hide (BS.out.below hb8)
  replace GL := hide (GL.out.below hb8)
  replace GE := hide (GE.out.below hb8)
  replace GA := hide (GA.out.below hb8)
  replace GS := hide (GS.out.below hb8)
  replace hB := bcall hB hb8
  have hs8 := hb8.size
  clear hb8
  have GN := hide GN
  obtain ⟨w9, e9, hb9, hs9, BN⟩ := lbox w8 (0) (0) (0) (.slice A8 2 c8) 24
  have HE9 := hide e9
  have BN := hide BN
  clear e9
  replace BL := hide (BL.out.below hb9)
  replace BA := hide (BA.out.below hb9)
  replace BS := hide (BS.out.below hb9)
  replace GL := hide (GL.out.below hb9)
  replace GE := hide (GE.out.below hb9)
  replace GA := hide (GA.out.below hb9)
  replace GS := hide (GS.out.below hb9)
  replace GN := hide (GN.out.below hb9)
  replace hB := bcall hB hb9
  clear hb9
  go_upto_region 5 with (fail)
  rw [HE9.out]
  obtain ⟨BA0, BA1, BA2, BA3⟩ := BA.out.all
  go_wp2_with fail
  clear BA0 BA1 BA2 BA3
  (with_reducible refine (Take_c (2) (0) (1) _ [1, 0] 2 5 _ GA.out (by decide) 2 0 0 [1, 1] 2 1 (by kernel_rfl) (by kernel_rfl) rfl).mono ?_)
  rintro e w10 ⟨A10, c10, rfl, p10, GC, hb10⟩
  replace BL := hide (BL.out.below hb10)
  replace BA := hide (BA.out.below hb10)
  replace BS := hide (BS.out.below hb10)
  replace BN := hide (BN.out.below hb10)
  replace GL := hide (GL.out.below hb10)
  replace GE := hide (GE.out.below hb10)
  replace GA := hide (GA.out.below hb10)
  replace GS := hide (GS.out.below hb10)
  replace GN := hide (GN.out.below hb10)
  replace hB := bcall hB hb10
  have hs10 := hb10.size
  clear hb10
  have GC := hide GC
  obtain ⟨w11, e11, hb11, hs11, BC⟩ := lbox w10 (2) (0) (0) (.slice A10 2 c10) 24
  have HE11 := hide e11
  have BC := hide BC
  clear e11
  replace BL := hide (BL.out.below hb11)
  replace BA := hide (BA.out.below hb11)
  replace BS := hide (BS.out.below hb11)
  replace BN := hide (BN.out.below hb11)
  replace GL := hide (GL.out.below hb11)
  replace GE := hide (GE.out.below hb11)
  replace GA := hide (GA.out.below hb11)
  replace GS := hide (GS.out.below hb11)
  replace GN := hide (GN.out.below hb11)
  replace GC := hide (GC.out.below hb11)
  replace hB := bcall hB hb11
  clear hb11
  go_upto_region 6 with (fail)
  rw [HE11.out]
  obtain ⟨BL0, BL1, BL2, BL3⟩ := BL.out.all
  go_wp2_with fail
  clear BL0 BL1 BL2 BL3
  (with_reducible refine (Take_c (0) (0) (0) _ [0, 0] 2 5 _ GL.out (by decide) 0 0 0 [0, 0] 2 0 (by kernel_rfl) (by kernel_rfl) rfl).mono ?_)
  rintro e w12 ⟨A12, c12, rfl, p12, GM, hb12⟩
  replace BL := hide (BL.out.below hb12)
  replace BA := hide (BA.out.below hb12)
  replace BS := hide (BS.out.below hb12)
  replace BN := hide (BN.out.below hb12)
  replace BC := hide (BC.out.below hb12)
  replace GL := hide (GL.out.below hb12)
  replace GE := hide (GE.out.below hb12)
  replace GA := hide (GA.out.below hb12)
  replace GS := hide (GS.out.below hb12)
  replace GN := hide (GN.out.below hb12)
  replace GC := hide (GC.out.below hb12)
  replace hB := bcall hB hb12
  have hs12 := hb12.size
  clear hb12
  have GM := hide GM
  obtain ⟨w13, e13, hb13, hs13, BM⟩ := lbox w12 (0) (0) (0) (.slice A12 2 c12) 24
  have HE13 := hide e13
  have BM := hide BM
  clear e13
  replace BL := hide (BL.out.below hb13)
  replace BA := hide (BA.out.below hb13)
  replace BS := hide (BS.out.below hb13)
  replace BN := hide (BN.out.below hb13)
  replace BC := hide (BC.out.below hb13)
  replace GL := hide (GL.out.below hb13)
  replace GE := hide (GE.out.below hb13)
  replace GA := hide (GA.out.below hb13)
  replace GS := hide (GS.out.below hb13)
  replace GN := hide (GN.out.below hb13)
  replace GC := hide (GC.out.below hb13)
  replace GM := hide (GM.out.below hb13)
  replace hB := bcall hB hb13
  clear hb13
  go_upto_region 7 with (fail)
  rw [HE13.out]
  obtain ⟨gL, oL, rfl, rL0, rL1⟩ := ints_two GL.out
  obtain ⟨gA, oA, rfl, rA0, rA1⟩ := ints_two GA.out
  obtain ⟨gS, oS, rfl, rS0, rS1⟩ := ints_two GS.out
  obtain ⟨gC, oC, rfl, rC0, rC1⟩ := ints_two GC.out
  obtain ⟨BL0, BL1, BL2, BL3⟩ := BL.out.all
  obtain ⟨BA0, BA1, BA2, BA3⟩ := BA.out.all
  obtain ⟨BS0, BS1, BS2, BS3⟩ := BS.out.all
  obtain ⟨BC0, BC1, BC2, BC3⟩ := BC.out.all
  go_upto_region 9 with (fail)
  go_wp2_with fail
  clear BL0 BL1 BL2 BL3 BA0 BA1 BA2 BA3 BS0 BS1 BS2 BS3 BC0 BC1 BC2 BC3
  (with_reducible refine (Lacks_c (0) (0) (0) _ [0, 0] 1 5 3 _ GL.out 2 (by kernel_rfl)).mono ?_)
  rintro e w14 ⟨rfl, hb14⟩
  replace BL := hide (BL.out.below hb14)
  replace BA := hide (BA.out.below hb14)
  replace BS := hide (BS.out.below hb14)
  replace BN := hide (BN.out.below hb14)
  replace BC := hide (BC.out.below hb14)
  replace BM := hide (BM.out.below hb14)
  replace GL := hide (GL.out.below hb14)
  replace GE := hide (GE.out.below hb14)
  replace GA := hide (GA.out.below hb14)
  replace GS := hide (GS.out.below hb14)
  replace GN := hide (GN.out.below hb14)
  replace GC := hide (GC.out.below hb14)
  replace GM := hide (GM.out.below hb14)
  replace rL0 := keepc hb14 rL0
  replace rL1 := keepc hb14 rL1
  replace rA0 := keepc hb14 rA0
  replace rA1 := keepc hb14 rA1
  replace rS0 := keepc hb14 rS0
  replace rS1 := keepc hb14 rS1
  replace rC0 := keepc hb14 rC0
  replace rC1 := keepc hb14 rC1
  replace hB := bcall hB hb14
  have hs14 := hb14.size
  clear hb14
  obtain ⟨BL0, BL1, BL2, BL3⟩ := BL.out.all
  go_wp2_with fail
  clear BL0 BL1 BL2 BL3
  (with_reducible refine (Lacks_c (0) (0) (0) _ [0, 0] 1 3 3 _ GL.out 0 (by kernel_rfl)).mono ?_)
  rintro e w15 ⟨rfl, hb15⟩
  replace BL := hide (BL.out.below hb15)
  replace BA := hide (BA.out.below hb15)
  replace BS := hide (BS.out.below hb15)
  replace BN := hide (BN.out.below hb15)
  replace BC := hide (BC.out.below hb15)
  replace BM := hide (BM.out.below hb15)
  replace GL := hide (GL.out.below hb15)
  replace GE := hide (GE.out.below hb15)
  replace GA := hide (GA.out.below hb15)
  replace GS := hide (GS.out.below hb15)
  replace GN := hide (GN.out.below hb15)
  replace GC := hide (GC.out.below hb15)
  replace GM := hide (GM.out.below hb15)
  replace rL0 := keepc hb15 rL0
  replace rL1 := keepc hb15 rL1
  replace rA0 := keepc hb15 rA0
  replace rA1 := keepc hb15 rA1
  replace rS0 := keepc hb15 rS0
  replace rS1 := keepc hb15 rS1
  replace rC0 := keepc hb15 rC0
  replace rC1 := keepc hb15 rC1
  replace hB := bcall hB hb15
  have hs15 := hb15.size
  clear hb15
  obtain ⟨BL0, BL1, BL2, BL3⟩ := BL.out.all
  go_wp2_with fail
  clear BL0 BL1 BL2 BL3
  (with_reducible refine (Lacks_c (0) (0) (0) _ [0, 0] 3 1 1 _ GL.out (-1) (by kernel_rfl)).mono ?_)
  rintro e w16 ⟨rfl, hb16⟩
  replace BL := hide (BL.out.below hb16)
  replace BA := hide (BA.out.below hb16)
  replace BS := hide (BS.out.below hb16)
  replace BN := hide (BN.out.below hb16)
  replace BC := hide (BC.out.below hb16)
  replace BM := hide (BM.out.below hb16)
  replace GL := hide (GL.out.below hb16)
  replace GE := hide (GE.out.below hb16)
  replace GA := hide (GA.out.below hb16)
  replace GS := hide (GS.out.below hb16)
  replace GN := hide (GN.out.below hb16)
  replace GC := hide (GC.out.below hb16)
  replace GM := hide (GM.out.below hb16)
  replace rL0 := keepc hb16 rL0
  replace rL1 := keepc hb16 rL1
  replace rA0 := keepc hb16 rA0
  replace rA1 := keepc hb16 rA1
  replace rS0 := keepc hb16 rS0
  replace rS1 := keepc hb16 rS1
  replace rC0 := keepc hb16 rC0
  replace rC1 := keepc hb16 rC1
  replace hB := bcall hB hb16
  have hs16 := hb16.size
  clear hb16
  obtain ⟨BC0, BC1, BC2, BC3⟩ := BC.out.all
  go_wp2_with fail
  clear BC0 BC1 BC2 BC3
  (with_reducible refine (Right_c (2) (0) (0) _ [1, 1] _ GC.out true (by kernel_rfl)).mono ?_)
  rintro e w17 ⟨rfl, hb17⟩
  replace BL := hide (BL.out.below hb17)
  replace BA := hide (BA.out.below hb17)
  replace BS := hide (BS.out.below hb17)
  replace BN := hide (BN.out.below hb17)
  replace BC := hide (BC.out.below hb17)
  replace BM := hide (BM.out.below hb17)
  replace GL := hide (GL.out.below hb17)
  replace GE := hide (GE.out.below hb17)
  replace GA := hide (GA.out.below hb17)
  replace GS := hide (GS.out.below hb17)
  replace GN := hide (GN.out.below hb17)
  replace GC := hide (GC.out.below hb17)
  replace GM := hide (GM.out.below hb17)
  replace rL0 := keepc hb17 rL0
  replace rL1 := keepc hb17 rL1
  replace rA0 := keepc hb17 rA0
  replace rA1 := keepc hb17 rA1
  replace rS0 := keepc hb17 rS0
  replace rS1 := keepc hb17 rS1
  replace rC0 := keepc hb17 rC0
  replace rC1 := keepc hb17 rC1
  replace hB := bcall hB hb17
  have hs17 := hb17.size
  clear hb17
  go_wp2_with fail
  (with_reducible refine (Right_c 0 0 1 _ [] _ Sl.nil_ false (by kernel_rfl)).mono ?_)
  rintro e w18 ⟨rfl, hb18⟩
  replace BL := hide (BL.out.below hb18)
  replace BA := hide (BA.out.below hb18)
  replace BS := hide (BS.out.below hb18)
  replace BN := hide (BN.out.below hb18)
  replace BC := hide (BC.out.below hb18)
  replace BM := hide (BM.out.below hb18)
  replace GL := hide (GL.out.below hb18)
  replace GE := hide (GE.out.below hb18)
  replace GA := hide (GA.out.below hb18)
  replace GS := hide (GS.out.below hb18)
  replace GN := hide (GN.out.below hb18)
  replace GC := hide (GC.out.below hb18)
  replace GM := hide (GM.out.below hb18)
  replace rL0 := keepc hb18 rL0
  replace rL1 := keepc hb18 rL1
  replace rA0 := keepc hb18 rA0
  replace rA1 := keepc hb18 rA1
  replace rS0 := keepc hb18 rS0
  replace rS1 := keepc hb18 rS1
  replace rC0 := keepc hb18 rC0
  replace rC1 := keepc hb18 rC1
  replace hB := bcall hB hb18
  have hs18 := hb18.size
  clear hb18
  obtain ⟨BL0, BL1, BL2, BL3⟩ := BL.out.all
  go_wp2_with fail
  clear BL0 BL1 BL2 BL3
  (with_reducible refine (May_c (0) (0) (0) _ [0, 0] 1 3 3 _ GL.out true (by kernel_rfl)).mono ?_)
  rintro e w19 ⟨rfl, hb19⟩
  replace BL := hide (BL.out.below hb19)
  replace BA := hide (BA.out.below hb19)
  replace BS := hide (BS.out.below hb19)
  replace BN := hide (BN.out.below hb19)
  replace BC := hide (BC.out.below hb19)
  replace BM := hide (BM.out.below hb19)
  replace GL := hide (GL.out.below hb19)
  replace GE := hide (GE.out.below hb19)
  replace GA := hide (GA.out.below hb19)
  replace GS := hide (GS.out.below hb19)
  replace GN := hide (GN.out.below hb19)
  replace GC := hide (GC.out.below hb19)
  replace GM := hide (GM.out.below hb19)
  replace rL0 := keepc hb19 rL0
  replace rL1 := keepc hb19 rL1
  replace rA0 := keepc hb19 rA0
  replace rA1 := keepc hb19 rA1
  replace rS0 := keepc hb19 rS0
  replace rS1 := keepc hb19 rS1
  replace rC0 := keepc hb19 rC0
  replace rC1 := keepc hb19 rC1
  replace hB := bcall hB hb19
  have hs19 := hb19.size
  clear hb19
  obtain ⟨BL0, BL1, BL2, BL3⟩ := BL.out.all
  go_wp2_with fail
  clear BL0 BL1 BL2 BL3
  (with_reducible refine (May_c (0) (0) (0) _ [0, 0] 0 0 0 _ GL.out false (by kernel_rfl)).mono ?_)
  rintro e w20 ⟨rfl, hb20⟩
  replace BL := hide (BL.out.below hb20)
  replace BA := hide (BA.out.below hb20)
  replace BS := hide (BS.out.below hb20)
  replace BN := hide (BN.out.below hb20)
  replace BC := hide (BC.out.below hb20)
  replace BM := hide (BM.out.below hb20)
  replace GL := hide (GL.out.below hb20)
  replace GE := hide (GE.out.below hb20)
  replace GA := hide (GA.out.below hb20)
  replace GS := hide (GS.out.below hb20)
  replace GN := hide (GN.out.below hb20)
  replace GC := hide (GC.out.below hb20)
  replace GM := hide (GM.out.below hb20)
  replace rL0 := keepc hb20 rL0
  replace rL1 := keepc hb20 rL1
  replace rA0 := keepc hb20 rA0
  replace rA1 := keepc hb20 rA1
  replace rS0 := keepc hb20 rS0
  replace rS1 := keepc hb20 rS1
  replace rC0 := keepc hb20 rC0
  replace rC1 := keepc hb20 rC1
  replace hB := bcall hB hb20
  have hs20 := hb20.size
  clear hb20
  obtain ⟨BL0, BL1, BL2, BL3⟩ := BL.out.all
  go_wp2_with fail
  clear BL0 BL1 BL2 BL3
  (with_reducible refine (Same_c (0) (0) (0) _ [0, 0] (0) (0) (0) _ [0, 0] _ GL.out GL.out true (by kernel_rfl)).mono ?_)
  rintro e w21 ⟨rfl, hb21⟩
  replace BL := hide (BL.out.below hb21)
  replace BA := hide (BA.out.below hb21)
  replace BS := hide (BS.out.below hb21)
  replace BN := hide (BN.out.below hb21)
  replace BC := hide (BC.out.below hb21)
  replace BM := hide (BM.out.below hb21)
  replace GL := hide (GL.out.below hb21)
  replace GE := hide (GE.out.below hb21)
  replace GA := hide (GA.out.below hb21)
  replace GS := hide (GS.out.below hb21)
  replace GN := hide (GN.out.below hb21)
  replace GC := hide (GC.out.below hb21)
  replace GM := hide (GM.out.below hb21)
  replace rL0 := keepc hb21 rL0
  replace rL1 := keepc hb21 rL1
  replace rA0 := keepc hb21 rA0
  replace rA1 := keepc hb21 rA1
  replace rS0 := keepc hb21 rS0
  replace rS1 := keepc hb21 rS1
  replace rC0 := keepc hb21 rC0
  replace rC1 := keepc hb21 rC1
  replace hB := bcall hB hb21
  have hs21 := hb21.size
  clear hb21
  obtain ⟨BL0, BL1, BL2, BL3⟩ := BL.out.all
  obtain ⟨BS0, BS1, BS2, BS3⟩ := BS.out.all
  go_wp2_with fail
  clear BL0 BL1 BL2 BL3 BS0 BS1 BS2 BS3
  (with_reducible refine (Same_c (0) (0) (0) _ [0, 0] (0) (3) (0) _ [-3, 0] _ GL.out GS.out false (by kernel_rfl)).mono ?_)
  rintro e w22 ⟨rfl, hb22⟩
  replace BL := hide (BL.out.below hb22)
  replace BA := hide (BA.out.below hb22)
  replace BS := hide (BS.out.below hb22)
  replace BN := hide (BN.out.below hb22)
  replace BC := hide (BC.out.below hb22)
  replace BM := hide (BM.out.below hb22)
  replace GL := hide (GL.out.below hb22)
  replace GE := hide (GE.out.below hb22)
  replace GA := hide (GA.out.below hb22)
  replace GS := hide (GS.out.below hb22)
  replace GN := hide (GN.out.below hb22)
  replace GC := hide (GC.out.below hb22)
  replace GM := hide (GM.out.below hb22)
  replace rL0 := keepc hb22 rL0
  replace rL1 := keepc hb22 rL1
  replace rA0 := keepc hb22 rA0
  replace rA1 := keepc hb22 rA1
  replace rS0 := keepc hb22 rS0
  replace rS1 := keepc hb22 rS1
  replace rC0 := keepc hb22 rC0
  replace rC1 := keepc hb22 rC1
  replace hB := bcall hB hb22
  have hs22 := hb22.size
  clear hb22
  go_wp2_with fail
  (with_reducible refine (New_c 99 (List.replicate 16 0) 16 rfl rfl _).mono ?_)
  rintro e w23 ⟨A23, c23, rfl, p23, GP, hb23⟩
  replace BL := hide (BL.out.below hb23)
  replace BA := hide (BA.out.below hb23)
  replace BS := hide (BS.out.below hb23)
  replace BN := hide (BN.out.below hb23)
  replace BC := hide (BC.out.below hb23)
  replace BM := hide (BM.out.below hb23)
  replace GL := hide (GL.out.below hb23)
  replace GE := hide (GE.out.below hb23)
  replace GA := hide (GA.out.below hb23)
  replace GS := hide (GS.out.below hb23)
  replace GN := hide (GN.out.below hb23)
  replace GC := hide (GC.out.below hb23)
  replace GM := hide (GM.out.below hb23)
  replace rL0 := keepc hb23 rL0
  replace rL1 := keepc hb23 rL1
  replace rA0 := keepc hb23 rA0
  replace rA1 := keepc hb23 rA1
  replace rS0 := keepc hb23 rS0
  replace rS1 := keepc hb23 rS1
  replace rC0 := keepc hb23 rC0
  replace rC1 := keepc hb23 rC1
  replace hB := bcall hB hb23
  have hs23 := hb23.size
  clear hb23
  have GP := hide GP
  go_wp2_with fail
  (with_reducible refine (New_c (-1) [] 0 rfl rfl _).mono ?_)
  rintro e w24 ⟨A24, c24, rfl, p24, GQ, hb24⟩
  replace BL := hide (BL.out.below hb24)
  replace BA := hide (BA.out.below hb24)
  replace BS := hide (BS.out.below hb24)
  replace BN := hide (BN.out.below hb24)
  replace BC := hide (BC.out.below hb24)
  replace BM := hide (BM.out.below hb24)
  replace GL := hide (GL.out.below hb24)
  replace GE := hide (GE.out.below hb24)
  replace GA := hide (GA.out.below hb24)
  replace GS := hide (GS.out.below hb24)
  replace GN := hide (GN.out.below hb24)
  replace GC := hide (GC.out.below hb24)
  replace GM := hide (GM.out.below hb24)
  replace GP := hide (GP.out.below hb24)
  replace rL0 := keepc hb24 rL0
  replace rL1 := keepc hb24 rL1
  replace rA0 := keepc hb24 rA0
  replace rA1 := keepc hb24 rA1
  replace rS0 := keepc hb24 rS0
  replace rS1 := keepc hb24 rS1
  replace rC0 := keepc hb24 rC0
  replace rC1 := keepc hb24 rC1
  replace hB := bcall hB hb24
  have hs24 := hb24.size
  clear hb24
  have GQ := hide GQ
  go_wp2
  go_ret
  exact ⟨rfl, hB⟩
end Go.Proofs.Ytgbkphgclpgppaa
