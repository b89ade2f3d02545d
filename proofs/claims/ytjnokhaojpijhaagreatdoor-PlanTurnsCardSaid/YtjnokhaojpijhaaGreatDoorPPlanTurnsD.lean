/- Layer plan: the law PlanTurns, case by case. Written by tools/genplanturns.py. -/
import Derived.Test.YtjnokhaojpijhaaGreatDoorPPlanTurns1
import Derived.Test.YtjnokhaojpijhaaGreatDoorPExtra2
namespace Go.Proofs.YtjnokhaojpijhaaGreatDoor
open Go.RowKit Go.Shelf Go.Proofs Go.Joins
set_option maxRecDepth 100000 in
set_option maxHeartbeats 16000000 in
theorem turns_12 (v : Value) (l : List Int) (k : Int) (w : World) (hl : Bytes w v l) (hr : ∀ b ∈ l, 0 ≤ b ∧ b ≤ 255) (ht : k.tmod 16 = 12) (hE : EnvP w) :
    Calls Tryz.prog 7 #[v, .int .u8 k] w fun x w' => x = .returned (.bool true) ∧ Below w.heap.size w w' := by
  have HE := hide hE
  have HL := hide hl
  have HR := hide hr
  have hwr : IntKind.u8.wrap 12 = 12 := by decide
  obtain ⟨Av, cv, rfl, hv1, hv2, -⟩ := id hl
  clear hl hr hE
  go_enter Tryz.func7, Tryz.ntmps7
  go_wp2_with fail
  (with_reducible refine (examples_anyPl _ HE.out).mono ?_)
  rintro x wa ⟨rfl, hb⟩
  have HBA := hide hb
  clear hb
  go_wp2_with fail
  (with_reducible refine (made_h _ l _ (HL.out.below HBA.out) HR.out).mono ?_)
  rintro x wb ⟨a, b, c, d, e, f, g, h, n, s, lo, lr, lp, A0, c0, A1, c1, A2, c2, rfl, HP, HQ, hb⟩
  have HBA := hide (bcall HBA.out hb)
  clear hb
  have hq := madeQ (byteG (l.take 90))
  rw [← HQ.out] at hq
  have HEn := hide (HE.out.below HBA.out)
  have hf1 := hP_form (p := (⟨a, b, c, d, e, f, g, h, n, lo, s, lr, lp, []⟩ : Pq)) HP.out
  dsimp only at hf1
  obtain ⟨hf0, hf1, hf2, hf3, hf4, hf5⟩ := hf1
  obtain ⟨w1, e1, hb1, hs1, X1⟩ := bp_new wb a b c d e f g h n (.slice A0 lo.length c0) s (.slice A1 lr.length c1) (.slice A2 lp.length c2) (.slice none 0 0) 30
  obtain ⟨w2, e2, hb2, hs2, X2⟩ := bp_new w1 a b c d e f g h n (.slice A0 lo.length c0) s (.slice A1 lr.length c1) (.slice A2 lp.length c2) (.slice none 0 0) 30
  have HE1 := hide e1
  have HE2 := hide e2
  have HX1 := hide X1
  have HX2 := hide X2
  have HB1 := hide hb1
  have HB2 := hide hb2
  have hne : wb.heap.size ≠ w1.heap.size := by omega
  have HS2 := hide hs2
  have HWB := hide (show wb.heap.size ≤ w1.heap.size by omega)
  clear e1 e2 X1 X2 hb1 hb2 hs1 hs2
  have hnum := hq.rt.rng
  unfold pRng at hnum
  dsimp only at hnum
  have hob := hq.ob
  have hmm := hq.mu
  have hwk := hq.wk
  dsimp only at hob hmm hwk
  have HMQ := hide hq
  clear hq
  go_upto_region 5 with (fail)
  rw [HE1.out]
  obtain ⟨x0, x1, x2, x3, x4, x5, x6, x7, x8, x9, xa, xb, xc, xd⟩ := HX1.out.cells
  go_upto_region 6 with (fail)
  rw [HE2.out]
  clear x0 x1 x2 x3 x4 x5 x6 x7 x8 x9 xa xb xc xd
  have HXP := hide (HX1.out.below HB2.out)
  obtain ⟨s2, hs2⟩ : ∃ r, addF s ((lo.length : Int) + 1) = r := ⟨_, rfl⟩
  have HS3 := hide hs2
  have k2 : pRight (⟨a, b, c, d, e, f, g, h, n, lo, s2, lr, lp, []⟩ : Pq) = false := by
    have hm := turn_wrong HMQ.out.rt (show a < 16 by omega) (show lo.length < 64 by omega) HMQ.out.ro (k := 12) (by decide)
    rw [← hs2]; exact hm
  clear hs2
  have K1 := hide (pRight_iff.2 HMQ.out.rt)
  have KT := hide (show pText (⟨a, b, c, d, e, f, g, h, n, lo, s2, lr, lp, []⟩ : Pq) = [] by unfold pText; rw [if_neg (by rw [k2]; exact Bool.noConfusion)])
  have K2 := hide k2
  clear k2
  obtain ⟨x0, x1, x2, x3, x4, x5, x6, x7, x8, x9, xa, xb, xc, xd⟩ := HX2.out.cells
  have f10 := HX2.out.cellsF 10
  obtain ⟨w3, e3, hbx, X3, XP3⟩ : ∃ Z, w2.setCell ⟨w1.heap.size, 10, none⟩ (.int .u64 (s2 : Int)) = Z ∧ Below wb.heap.size wb Z ∧ Bp 30 Z w1.heap.size a b c d e f g h n (.slice A0 lo.length c0) s2 (.slice A1 lr.length c1) (.slice A2 lp.length c2) (.slice none 0 0) ∧ Bp 30 Z wb.heap.size a b c d e f g h n (.slice A0 lo.length c0) s (.slice A1 lr.length c1) (.slice A2 lp.length c2) (.slice none 0 0) :=
    ⟨_, rfl, (bcall HB1.out HB2.out).setCell (p := ⟨w1.heap.size, 10, none⟩) HWB.out _, ⟨by rw [block_setCell HX2.out.blk]; rfl⟩, ⟨(Below.heap_setCell w2 ⟨w1.heap.size, 10, none⟩ _ wb.heap.size hne).trans HXP.out.blk⟩⟩
  have HE3 := hide e3
  have HBX := hide hbx
  have HXQ := hide X3
  have HXP := hide XP3
  clear e3 hbx X3 XP3
  go_wp2_with fail
  (with_reducible refine (Add_nPl s ((lo.length : Int) + 1) _ HMQ.out.ro (by omega) (by omega) s2 HS3.out).mono ?_)
  rintro x w4 ⟨rfl, hw⟩
  obtain rfl := hw.symm
  go_upto_region 39 with (fail)
  rw [HE3.out]
  clear x0 x1 x2 x3 x4 x5 x6 x7 x8 x9 xa xb xc xd
  clear f10 HE3
  have HPP := hide (HP.out.below HBX.out)
  have HPQ := hide (show PlanR w3 (.slice A0 lo.length c0) (.slice A1 lr.length c1) (.slice A2 lp.length c2) (.slice none 0 0) (⟨a, b, c, d, e, f, g, h, n, lo, s2, lr, lp, []⟩ : Pq) from ⟨HPP.out.ob, HPP.out.rg, HPP.out.pg, HPP.out.pk⟩)
  have HS4 := hide (show s2 < 18446744073709551616 by rw [← HS3.out]; exact add_lt HMQ.out.ro _)
  have HBD := hide (Below.refl w3.heap.size w3)
  obtain ⟨x0, x1, x2, x3, x4, x5, x6, x7, x8, x9, xa, xb, xc, xd⟩ := (HXP.out.below HBD.out).cells
  obtain ⟨z0, z1, z2, z3, z4, z5, z6, z7, z8, z9, za, zb, zc, zd⟩ := (HXQ.out.below HBD.out).cells
  go_wp2_with fail
  (with_reducible refine (pRight_c a b c d e f g h n (.slice A0 lo.length c0) s (.slice A1 lr.length c1) (.slice A2 lp.length c2) (.slice none 0 0) lo lr lp [] _ HMQ.out.ro (HPP.out.below HBD.out) true K1.out).mono ?_)
  rintro x wr1 ⟨rfl, hb⟩
  have HBD := hide (bcall HBD.out hb)
  clear hb
  clear x0 x1 x2 x3 x4 x5 x6 x7 x8 x9 xa xb xc xd
  clear z0 z1 z2 z3 z4 z5 z6 z7 z8 z9 za zb zc zd
  obtain ⟨x0, x1, x2, x3, x4, x5, x6, x7, x8, x9, xa, xb, xc, xd⟩ := (HXP.out.below HBD.out).cells
  obtain ⟨z0, z1, z2, z3, z4, z5, z6, z7, z8, z9, za, zb, zc, zd⟩ := (HXQ.out.below HBD.out).cells
  go_wp2_with fail
  (with_reducible refine (pRight_c a b c d e f g h n (.slice A0 lo.length c0) s2 (.slice A1 lr.length c1) (.slice A2 lp.length c2) (.slice none 0 0) lo lr lp [] _ HS4.out (HPQ.out.below HBD.out) false K2.out).mono ?_)
  rintro x wr2 ⟨rfl, hb⟩
  have HBD := hide (bcall HBD.out hb)
  clear hb
  clear x0 x1 x2 x3 x4 x5 x6 x7 x8 x9 xa xb xc xd
  clear z0 z1 z2 z3 z4 z5 z6 z7 z8 z9 za zb zc zd
  obtain ⟨x0, x1, x2, x3, x4, x5, x6, x7, x8, x9, xa, xb, xc, xd⟩ := (HXP.out.below HBD.out).cells
  obtain ⟨z0, z1, z2, z3, z4, z5, z6, z7, z8, z9, za, zb, zc, zd⟩ := (HXQ.out.below HBD.out).cells
  go_wp2_with fail
  (with_reducible refine (pText_any a b c d e f g h n (.slice A0 lo.length c0) s2 (.slice A1 lr.length c1) (.slice A2 lp.length c2) (.slice none 0 0) lo lr lp [] _ HS4.out (HPQ.out.below HBD.out) (HEn.out.below (bcall HBX.out HBD.out)) [] KT.out).mono ?_)
  rintro x wr3 ⟨rfl, hb⟩
  have HBD := hide (bcall HBD.out hb)
  clear hb
  clear x0 x1 x2 x3 x4 x5 x6 x7 x8 x9 xa xb xc xd
  clear z0 z1 z2 z3 z4 z5 z6 z7 z8 z9 za zb zc zd
  go_wp2
  go_ret
  exact ⟨rfl, bcall HBA.out (bcall HBX.out HBD.out)⟩
set_option maxRecDepth 100000 in
set_option maxHeartbeats 16000000 in
theorem turns_13 (v : Value) (l : List Int) (k : Int) (w : World) (hl : Bytes w v l) (hr : ∀ b ∈ l, 0 ≤ b ∧ b ≤ 255) (ht : k.tmod 16 = 13) (hE : EnvP w) :
    Calls Tryz.prog 7 #[v, .int .u8 k] w fun x w' => x = .returned (.bool true) ∧ Below w.heap.size w w' := by
  have HE := hide hE
  have HL := hide hl
  have HR := hide hr
  have hwr : IntKind.u8.wrap 13 = 13 := by decide
  obtain ⟨Av, cv, rfl, hv1, hv2, -⟩ := id hl
  clear hl hr hE
  go_enter Tryz.func7, Tryz.ntmps7
  go_wp2_with fail
  (with_reducible refine (examples_anyPl _ HE.out).mono ?_)
  rintro x wa ⟨rfl, hb⟩
  have HBA := hide hb
  clear hb
  go_wp2_with fail
  (with_reducible refine (made_h _ l _ (HL.out.below HBA.out) HR.out).mono ?_)
  rintro x wb ⟨a, b, c, d, e, f, g, h, n, s, lo, lr, lp, A0, c0, A1, c1, A2, c2, rfl, HP, HQ, hb⟩
  have HBA := hide (bcall HBA.out hb)
  clear hb
  have hq := madeQ (byteG (l.take 90))
  rw [← HQ.out] at hq
  have HEn := hide (HE.out.below HBA.out)
  have hf1 := hP_form (p := (⟨a, b, c, d, e, f, g, h, n, lo, s, lr, lp, []⟩ : Pq)) HP.out
  dsimp only at hf1
  obtain ⟨hf0, hf1, hf2, hf3, hf4, hf5⟩ := hf1
  obtain ⟨w1, e1, hb1, hs1, X1⟩ := bp_new wb a b c d e f g h n (.slice A0 lo.length c0) s (.slice A1 lr.length c1) (.slice A2 lp.length c2) (.slice none 0 0) 30
  obtain ⟨w2, e2, hb2, hs2, X2⟩ := bp_new w1 a b c d e f g h n (.slice A0 lo.length c0) s (.slice A1 lr.length c1) (.slice A2 lp.length c2) (.slice none 0 0) 30
  have HE1 := hide e1
  have HE2 := hide e2
  have HX1 := hide X1
  have HX2 := hide X2
  have HB1 := hide hb1
  have HB2 := hide hb2
  have hne : wb.heap.size ≠ w1.heap.size := by omega
  have HS2 := hide hs2
  have HWB := hide (show wb.heap.size ≤ w1.heap.size by omega)
  clear e1 e2 X1 X2 hb1 hb2 hs1 hs2
  have hnum := hq.rt.rng
  unfold pRng at hnum
  dsimp only at hnum
  have hob := hq.ob
  have hmm := hq.mu
  have hwk := hq.wk
  dsimp only at hob hmm hwk
  have HMQ := hide hq
  clear hq
  go_upto_region 5 with (fail)
  rw [HE1.out]
  obtain ⟨x0, x1, x2, x3, x4, x5, x6, x7, x8, x9, xa, xb, xc, xd⟩ := HX1.out.cells
  go_upto_region 6 with (fail)
  rw [HE2.out]
  clear x0 x1 x2 x3 x4 x5 x6 x7 x8 x9 xa xb xc xd
  have HXP := hide (HX1.out.below HB2.out)
  have k2 : pRight (⟨a, b, c, d, e, f, g, h, 5, lo, s, lr, lp, []⟩ : Pq) = false := by
    have hm := turn_wrong HMQ.out.rt (show a < 16 by omega) (show lo.length < 64 by omega) HMQ.out.ro (k := 13) (by decide)
    exact hm
  have K1 := hide (pRight_iff.2 HMQ.out.rt)
  have KT := hide (show pText (⟨a, b, c, d, e, f, g, h, 5, lo, s, lr, lp, []⟩ : Pq) = [] by unfold pText; rw [if_neg (by rw [k2]; exact Bool.noConfusion)])
  have K2 := hide k2
  clear k2
  obtain ⟨x0, x1, x2, x3, x4, x5, x6, x7, x8, x9, xa, xb, xc, xd⟩ := HX2.out.cells
  have f8 := HX2.out.cellsF 8
  obtain ⟨w3, e3, hbx, X3, XP3⟩ : ∃ Z, w2.setCell ⟨w1.heap.size, 8, none⟩ (.int .i64 5) = Z ∧ Below wb.heap.size wb Z ∧ Bp 30 Z w1.heap.size a b c d e f g h 5 (.slice A0 lo.length c0) s (.slice A1 lr.length c1) (.slice A2 lp.length c2) (.slice none 0 0) ∧ Bp 30 Z wb.heap.size a b c d e f g h n (.slice A0 lo.length c0) s (.slice A1 lr.length c1) (.slice A2 lp.length c2) (.slice none 0 0) :=
    ⟨_, rfl, (bcall HB1.out HB2.out).setCell (p := ⟨w1.heap.size, 8, none⟩) HWB.out _, ⟨by rw [block_setCell HX2.out.blk]; rfl⟩, ⟨(Below.heap_setCell w2 ⟨w1.heap.size, 8, none⟩ _ wb.heap.size hne).trans HXP.out.blk⟩⟩
  have HE3 := hide e3
  have HBX := hide hbx
  have HXQ := hide X3
  have HXP := hide XP3
  clear e3 hbx X3 XP3
  go_upto_region 39 with (fail)
  rw [HE3.out]
  clear x0 x1 x2 x3 x4 x5 x6 x7 x8 x9 xa xb xc xd
  clear f8 HE3
  have HPP := hide (HP.out.below HBX.out)
  have HPQ := hide (show PlanR w3 (.slice A0 lo.length c0) (.slice A1 lr.length c1) (.slice A2 lp.length c2) (.slice none 0 0) (⟨a, b, c, d, e, f, g, h, 5, lo, s, lr, lp, []⟩ : Pq) from ⟨HPP.out.ob, HPP.out.rg, HPP.out.pg, HPP.out.pk⟩)
  have HBD := hide (Below.refl w3.heap.size w3)
  obtain ⟨x0, x1, x2, x3, x4, x5, x6, x7, x8, x9, xa, xb, xc, xd⟩ := (HXP.out.below HBD.out).cells
  obtain ⟨z0, z1, z2, z3, z4, z5, z6, z7, z8, z9, za, zb, zc, zd⟩ := (HXQ.out.below HBD.out).cells
  go_wp2_with fail
  (with_reducible refine (pRight_c a b c d e f g h n (.slice A0 lo.length c0) s (.slice A1 lr.length c1) (.slice A2 lp.length c2) (.slice none 0 0) lo lr lp [] _ HMQ.out.ro (HPP.out.below HBD.out) true K1.out).mono ?_)
  rintro x wr1 ⟨rfl, hb⟩
  have HBD := hide (bcall HBD.out hb)
  clear hb
  clear x0 x1 x2 x3 x4 x5 x6 x7 x8 x9 xa xb xc xd
  clear z0 z1 z2 z3 z4 z5 z6 z7 z8 z9 za zb zc zd
  obtain ⟨x0, x1, x2, x3, x4, x5, x6, x7, x8, x9, xa, xb, xc, xd⟩ := (HXP.out.below HBD.out).cells
  obtain ⟨z0, z1, z2, z3, z4, z5, z6, z7, z8, z9, za, zb, zc, zd⟩ := (HXQ.out.below HBD.out).cells
  go_wp2_with fail
  (with_reducible refine (pRight_c a b c d e f g h 5 (.slice A0 lo.length c0) s (.slice A1 lr.length c1) (.slice A2 lp.length c2) (.slice none 0 0) lo lr lp [] _ HMQ.out.ro (HPQ.out.below HBD.out) false K2.out).mono ?_)
  rintro x wr2 ⟨rfl, hb⟩
  have HBD := hide (bcall HBD.out hb)
  clear hb
  clear x0 x1 x2 x3 x4 x5 x6 x7 x8 x9 xa xb xc xd
  clear z0 z1 z2 z3 z4 z5 z6 z7 z8 z9 za zb zc zd
  obtain ⟨x0, x1, x2, x3, x4, x5, x6, x7, x8, x9, xa, xb, xc, xd⟩ := (HXP.out.below HBD.out).cells
  obtain ⟨z0, z1, z2, z3, z4, z5, z6, z7, z8, z9, za, zb, zc, zd⟩ := (HXQ.out.below HBD.out).cells
  go_wp2_with fail
  (with_reducible refine (pText_any a b c d e f g h 5 (.slice A0 lo.length c0) s (.slice A1 lr.length c1) (.slice A2 lp.length c2) (.slice none 0 0) lo lr lp [] _ HMQ.out.ro (HPQ.out.below HBD.out) (HEn.out.below (bcall HBX.out HBD.out)) [] KT.out).mono ?_)
  rintro x wr3 ⟨rfl, hb⟩
  have HBD := hide (bcall HBD.out hb)
  clear hb
  clear x0 x1 x2 x3 x4 x5 x6 x7 x8 x9 xa xb xc xd
  clear z0 z1 z2 z3 z4 z5 z6 z7 z8 z9 za zb zc zd
  go_wp2
  go_ret
  exact ⟨rfl, bcall HBA.out (bcall HBX.out HBD.out)⟩
set_option maxRecDepth 100000 in
set_option maxHeartbeats 16000000 in
theorem turns_14 (v : Value) (l : List Int) (k : Int) (w : World) (hl : Bytes w v l) (hr : ∀ b ∈ l, 0 ≤ b ∧ b ≤ 255) (ht : k.tmod 16 = 14) (hE : EnvP w) :
    Calls Tryz.prog 7 #[v, .int .u8 k] w fun x w' => x = .returned (.bool true) ∧ Below w.heap.size w w' := by
  have HE := hide hE
  have HL := hide hl
  have HR := hide hr
  have hwr : IntKind.u8.wrap 14 = 14 := by decide
  obtain ⟨Av, cv, rfl, hv1, hv2, -⟩ := id hl
  clear hl hr hE
  go_enter Tryz.func7, Tryz.ntmps7
  go_wp2_with fail
  (with_reducible refine (examples_anyPl _ HE.out).mono ?_)
  rintro x wa ⟨rfl, hb⟩
  have HBA := hide hb
  clear hb
  go_wp2_with fail
  (with_reducible refine (made_h _ l _ (HL.out.below HBA.out) HR.out).mono ?_)
  rintro x wb ⟨a, b, c, d, e, f, g, h, n, s, lo, lr, lp, A0, c0, A1, c1, A2, c2, rfl, HP, HQ, hb⟩
  have HBA := hide (bcall HBA.out hb)
  clear hb
  have hq := madeQ (byteG (l.take 90))
  rw [← HQ.out] at hq
  have HEn := hide (HE.out.below HBA.out)
  have hf1 := hP_form (p := (⟨a, b, c, d, e, f, g, h, n, lo, s, lr, lp, []⟩ : Pq)) HP.out
  dsimp only at hf1
  obtain ⟨hf0, hf1, hf2, hf3, hf4, hf5⟩ := hf1
  obtain ⟨w1, e1, hb1, hs1, X1⟩ := bp_new wb a b c d e f g h n (.slice A0 lo.length c0) s (.slice A1 lr.length c1) (.slice A2 lp.length c2) (.slice none 0 0) 30
  obtain ⟨w2, e2, hb2, hs2, X2⟩ := bp_new w1 a b c d e f g h n (.slice A0 lo.length c0) s (.slice A1 lr.length c1) (.slice A2 lp.length c2) (.slice none 0 0) 30
  have HE1 := hide e1
  have HE2 := hide e2
  have HX1 := hide X1
  have HX2 := hide X2
  have HB1 := hide hb1
  have HB2 := hide hb2
  have hne : wb.heap.size ≠ w1.heap.size := by omega
  have HS2 := hide hs2
  have HWB := hide (show wb.heap.size ≤ w1.heap.size by omega)
  clear e1 e2 X1 X2 hb1 hb2 hs1 hs2
  have hnum := hq.rt.rng
  unfold pRng at hnum
  dsimp only at hnum
  have hob := hq.ob
  have hmm := hq.mu
  have hwk := hq.wk
  dsimp only at hob hmm hwk
  have HMQ := hide hq
  clear hq
  go_upto_region 5 with (fail)
  rw [HE1.out]
  obtain ⟨x0, x1, x2, x3, x4, x5, x6, x7, x8, x9, xa, xb, xc, xd⟩ := HX1.out.cells
  go_upto_region 6 with (fail)
  rw [HE2.out]
  clear x0 x1 x2 x3 x4 x5 x6 x7 x8 x9 xa xb xc xd
  have HXP := hide (HX1.out.below HB2.out)
  have k2 : pRight (⟨a, b, c, d, e, f, g, h, n, lo, s, ([0] :: lr), lp, []⟩ : Pq) = false := by
    have hm := turn_wrong HMQ.out.rt (show a < 16 by omega) (show lo.length < 64 by omega) HMQ.out.ro (k := 14) (by decide)
    exact hm
  have K1 := hide (pRight_iff.2 HMQ.out.rt)
  have KT := hide (show pText (⟨a, b, c, d, e, f, g, h, n, lo, s, ([0] :: lr), lp, []⟩ : Pq) = [] by unfold pText; rw [if_neg (by rw [k2]; exact Bool.noConfusion)])
  have K2 := hide k2
  clear k2
  have hlr : lr.length ≤ 2 := by have := HMQ.out.rt.lens.1; dsimp only at this; omega
  obtain ⟨j0, hj, jz0, jz1, jz2⟩ := info_parts infoRw
  obtain ⟨v0, v1, hv1s, hv2s⟩ : ∃ X Y, w2.alloc (.cells #[.int .i64 0] 3) = X ∧ X.alloc (.cells #[(.slice (some ⟨w2.heap.size, 0, none⟩) 1 1)] 63) = Y := ⟨_, _, rfl, rfl⟩
  have hsz1 : v0.heap.size = w2.heap.size + 1 := by rw [← hv1s]; simp
  have hBa : Below w2.heap.size w2 v0 := by rw [← hv1s]; exact balHp _ _
  have hBb : Below v0.heap.size v0 v1 := by rw [← hv2s]; exact balHp _ _
  have hbk : Bk v1 w2.heap.size (.cells #[.int .i64 0] 3) := by have h := Bk.new w2 (.cells #[.int .i64 0] 3); rw [hv1s] at h; exact h.below hBb
  have hown : v1.ownsRow (w2.heap.size + 1) 63 1 (.slice (some ⟨w2.heap.size + 1, 0, none⟩) 1 1) 1 [(.slice (some ⟨w2.heap.size, 0, none⟩) 1 1)] := by have h := own_new v0 (w2.heap.size + 1) [(.slice (some ⟨w2.heap.size, 0, none⟩) 1 1)] 63 1 1 (by omega) rfl (by simp [maxLen]); rw [hsz1] at h; rw [← hv2s]; exact h
  obtain ⟨vs, hsl, hvl, hones, hrows⟩ := grid_ones HP.out.rg
  dsimp only at hvl
  have hsz2 : v1.heap.size = w2.heap.size + 1 + 1 := by rw [← hv2s]; simp [hsz1]
  have hB2b : Below wb.heap.size wb w2 := bcall HB1.out HB2.out
  have hBv : Below wb.heap.size wb v1 := bcall (bcall hB2b hBa) hBb
  have HSL := hide (hsl.below hBv)
  have HVL := hide hvl
  have HON := hide hones
  have HRW := hide hrows
  have HBV := hide hBv
  have HOWN := hide hown
  have HBK := hide hbk
  have HV1 := hide hv1s
  have HV2 := hide hv2s
  have HZ2 := hide hsz2
  have hw12 : w1.heap.size < w2.heap.size := by have := HS2.out; omega
  have hwb1 : wb.heap.size < w2.heap.size := by have := HWB.out; omega
  have hw2v : w2.heap.size ≤ v1.heap.size := by omega
  have HBab := hide (bcall hBa hBb)
  have HX2v := hide (HX2.out.below HBab.out)
  have HXPv := hide (HXP.out.below HBab.out)
  clear hsl hvl hones hrows hBv hown hbk hv1s hv2s hsz1 hsz2 hBa hBb hB2b
  obtain ⟨x0, x1, x2, x3, x4, x5, x6, x7, x8, x9, xa, xb, xc, xd⟩ := HX2.out.cells
  go_upto_region 39 with (at_builtin; rw [HV1.out, HV2.out]; refine wpList_append_ones _ rfl _ _ 22 rfl (w2.heap.size + 1) 63 j0 (.slice none 0 0) 24 Tryz.underlying22 hj jz0 jz1 jz2 rfl _ _ _ rfl HOWN.out _ vs rfl HSL.out HON.out (by have := HVL.out; simp only [maxLen]; omega) (by have := HVL.out; omega) (by have := HZ2.out; omega) ?_; intro v' w7 hown' hbel; obtain ⟨A4, c4, rfl, hr1, hr2⟩ := own_form hown'; have HOWN2 := hide hown'; have HBEL := hide hbel; clear hown' hbel x0 x1 x2 x3 x4 x5 x6 x7 x8 x9 xa xb xc xd; obtain ⟨x0, x1, x2, x3, x4, x5, x6, x7, x8, x9, xa, xb, xc, xd⟩ := (HX2v.out.of_bel HBEL.out (by omega)).cells; have f11 := (HX2v.out.of_bel HBEL.out (by omega)).cellsF 11)
  have hvl := HVL.out
  rw [hvl] at hr1
  rw [hvl]
  obtain ⟨w3, e3, hbx, X3, XP3, hgr⟩ : ∃ Z, w7.setCell ⟨w1.heap.size, 11, none⟩ (.slice A4 (1 + lr.length) c4) = Z ∧ Below wb.heap.size wb Z ∧ Bp 30 Z w1.heap.size a b c d e f g h n (.slice A0 lo.length c0) s (.slice A4 (1 + lr.length) c4) (.slice A2 lp.length c2) (.slice none 0 0) ∧ Bp 30 Z wb.heap.size a b c d e f g h n (.slice A0 lo.length c0) s (.slice A1 lr.length c1) (.slice A2 lp.length c2) (.slice none 0 0) ∧ Grid Z (.slice A4 (1 + lr.length) c4) ([0] :: lr) := by
    have hb7 : Below wb.heap.size v1 w7 := HBEL.out.mono (by omega)
    have hbz := (HBV.out.trans hb7).setCell (p := ⟨w1.heap.size, 11, none⟩) HWB.out (.slice A4 (1 + lr.length) c4)
    refine ⟨_, rfl, hbz, ⟨by rw [block_setCell (HX2v.out.of_bel HBEL.out (by omega)).blk]; rfl⟩, ⟨(Below.heap_setCell w7 ⟨w1.heap.size, 11, none⟩ _ wb.heap.size hne).trans (HXPv.out.of_bel HBEL.out (by omega)).blk⟩, ?_⟩
    refine grid_cons HVL.out (fun i u l hu hl => (HRW.out i u l hu hl).below hbz) (lit_intsPl (C := w2.heap.size) ((Below.heap_setCell w7 ⟨w1.heap.size, 11, none⟩ _ w2.heap.size (by show w2.heap.size ≠ w1.heap.size; omega)).trans ((HBEL.out.block w2.heap.size (by omega)).trans HBK.out))) (base := w2.heap.size + 1) ?_
    rw [HVL.out]
    have h := HOWN2.out
    rw [HVL.out] at h
    exact ownsRow_setCell_below h (show w1.heap.size < w2.heap.size + 1 by omega) _
  have HE3 := hide e3
  have HBX := hide hbx
  have HXQ := hide X3
  have HXP := hide XP3
  have HGR := hide hgr
  rw [HE3.out]
  clear x0 x1 x2 x3 x4 x5 x6 x7 x8 x9 xa xb xc xd
  clear f11 e3 hbx X3 XP3 hgr HE3 hvl
  have HPP := hide (HP.out.below HBX.out)
  have HPQ := hide (show PlanR w3 (.slice A0 lo.length c0) (.slice A4 (1 + lr.length) c4) (.slice A2 lp.length c2) (.slice none 0 0) (⟨a, b, c, d, e, f, g, h, n, lo, s, ([0] :: lr), lp, []⟩ : Pq) from ⟨HPP.out.ob, HGR.out, HPP.out.pg, HPP.out.pk⟩)
  have HBD := hide (Below.refl w3.heap.size w3)
  obtain ⟨x0, x1, x2, x3, x4, x5, x6, x7, x8, x9, xa, xb, xc, xd⟩ := (HXP.out.below HBD.out).cells
  obtain ⟨z0, z1, z2, z3, z4, z5, z6, z7, z8, z9, za, zb, zc, zd⟩ := (HXQ.out.below HBD.out).cells
  go_wp2_with fail
  (with_reducible refine (pRight_c a b c d e f g h n (.slice A0 lo.length c0) s (.slice A1 lr.length c1) (.slice A2 lp.length c2) (.slice none 0 0) lo lr lp [] _ HMQ.out.ro (HPP.out.below HBD.out) true K1.out).mono ?_)
  rintro x wr1 ⟨rfl, hb⟩
  have HBD := hide (bcall HBD.out hb)
  clear hb
  clear x0 x1 x2 x3 x4 x5 x6 x7 x8 x9 xa xb xc xd
  clear z0 z1 z2 z3 z4 z5 z6 z7 z8 z9 za zb zc zd
  obtain ⟨x0, x1, x2, x3, x4, x5, x6, x7, x8, x9, xa, xb, xc, xd⟩ := (HXP.out.below HBD.out).cells
  obtain ⟨z0, z1, z2, z3, z4, z5, z6, z7, z8, z9, za, zb, zc, zd⟩ := (HXQ.out.below HBD.out).cells
  go_wp2_with fail
  (with_reducible refine (pRight_c a b c d e f g h n (.slice A0 lo.length c0) s (.slice A4 (1 + lr.length) c4) (.slice A2 lp.length c2) (.slice none 0 0) lo ([0] :: lr) lp [] _ HMQ.out.ro (HPQ.out.below HBD.out) false K2.out).mono ?_)
  rintro x wr2 ⟨rfl, hb⟩
  have HBD := hide (bcall HBD.out hb)
  clear hb
  clear x0 x1 x2 x3 x4 x5 x6 x7 x8 x9 xa xb xc xd
  clear z0 z1 z2 z3 z4 z5 z6 z7 z8 z9 za zb zc zd
  obtain ⟨x0, x1, x2, x3, x4, x5, x6, x7, x8, x9, xa, xb, xc, xd⟩ := (HXP.out.below HBD.out).cells
  obtain ⟨z0, z1, z2, z3, z4, z5, z6, z7, z8, z9, za, zb, zc, zd⟩ := (HXQ.out.below HBD.out).cells
  go_wp2_with fail
  (with_reducible refine (pText_any a b c d e f g h n (.slice A0 lo.length c0) s (.slice A4 (1 + lr.length) c4) (.slice A2 lp.length c2) (.slice none 0 0) lo ([0] :: lr) lp [] _ HMQ.out.ro (HPQ.out.below HBD.out) (HEn.out.below (bcall HBX.out HBD.out)) [] KT.out).mono ?_)
  rintro x wr3 ⟨rfl, hb⟩
  have HBD := hide (bcall HBD.out hb)
  clear hb
  clear x0 x1 x2 x3 x4 x5 x6 x7 x8 x9 xa xb xc xd
  clear z0 z1 z2 z3 z4 z5 z6 z7 z8 z9 za zb zc zd
  go_wp2
  go_ret
  exact ⟨rfl, bcall HBA.out (bcall HBX.out HBD.out)⟩
set_option maxRecDepth 100000 in
set_option maxHeartbeats 16000000 in
theorem turns_15 (v : Value) (l : List Int) (k : Int) (w : World) (hl : Bytes w v l) (hr : ∀ b ∈ l, 0 ≤ b ∧ b ≤ 255) (ht : k.tmod 16 = 15) (hE : EnvP w) :
    Calls Tryz.prog 7 #[v, .int .u8 k] w fun x w' => x = .returned (.bool true) ∧ Below w.heap.size w w' := by
  have HE := hide hE
  have HL := hide hl
  have HR := hide hr
  have hwr : IntKind.u8.wrap 15 = 15 := by decide
  obtain ⟨Av, cv, rfl, hv1, hv2, -⟩ := id hl
  clear hl hr hE
  go_enter Tryz.func7, Tryz.ntmps7
  go_wp2_with fail
  (with_reducible refine (examples_anyPl _ HE.out).mono ?_)
  rintro x wa ⟨rfl, hb⟩
  have HBA := hide hb
  clear hb
  go_wp2_with fail
  (with_reducible refine (made_h _ l _ (HL.out.below HBA.out) HR.out).mono ?_)
  rintro x wb ⟨a, b, c, d, e, f, g, h, n, s, lo, lr, lp, A0, c0, A1, c1, A2, c2, rfl, HP, HQ, hb⟩
  have HBA := hide (bcall HBA.out hb)
  clear hb
  have hq := madeQ (byteG (l.take 90))
  rw [← HQ.out] at hq
  have HEn := hide (HE.out.below HBA.out)
  have hf1 := hP_form (p := (⟨a, b, c, d, e, f, g, h, n, lo, s, lr, lp, []⟩ : Pq)) HP.out
  dsimp only at hf1
  obtain ⟨hf0, hf1, hf2, hf3, hf4, hf5⟩ := hf1
  obtain ⟨w1, e1, hb1, hs1, X1⟩ := bp_new wb a b c d e f g h n (.slice A0 lo.length c0) s (.slice A1 lr.length c1) (.slice A2 lp.length c2) (.slice none 0 0) 30
  obtain ⟨w2, e2, hb2, hs2, X2⟩ := bp_new w1 a b c d e f g h n (.slice A0 lo.length c0) s (.slice A1 lr.length c1) (.slice A2 lp.length c2) (.slice none 0 0) 30
  have HE1 := hide e1
  have HE2 := hide e2
  have HX1 := hide X1
  have HX2 := hide X2
  have HB1 := hide hb1
  have HB2 := hide hb2
  have hne : wb.heap.size ≠ w1.heap.size := by omega
  have HS2 := hide hs2
  have HWB := hide (show wb.heap.size ≤ w1.heap.size by omega)
  clear e1 e2 X1 X2 hb1 hb2 hs1 hs2
  have hnum := hq.rt.rng
  unfold pRng at hnum
  dsimp only at hnum
  have hob := hq.ob
  have hmm := hq.mu
  have hwk := hq.wk
  dsimp only at hob hmm hwk
  have HMQ := hide hq
  clear hq
  go_upto_region 5 with (fail)
  rw [HE1.out]
  obtain ⟨x0, x1, x2, x3, x4, x5, x6, x7, x8, x9, xa, xb, xc, xd⟩ := HX1.out.cells
  go_upto_region 6 with (fail)
  rw [HE2.out]
  clear x0 x1 x2 x3 x4 x5 x6 x7 x8 x9 xa xb xc xd
  have HXP := hide (HX1.out.below HB2.out)
  obtain ⟨q1, hq1⟩ : ∃ q, picksG a b [0] 9 = q := ⟨_, rfl⟩
  obtain ⟨q2, hq2⟩ : ∃ q, picksG 16 0 [16] 1 = q := ⟨_, rfl⟩
  have hl1 : q1.length ≤ 9 := by rw [← hq1]; unfold picksG; rw [List.length_take]; omega
  have hl2 : q2.length ≤ 1 := by rw [← hq2]; unfold picksG; rw [List.length_take]; omega
  have k2 : pRight (⟨a, b, c, d, e, f, g, h, n, lo, s, lr, lp, q1 ++ q2⟩ : Pq) = false := by
    have hm := turn_wrong HMQ.out.rt (show a < 16 by omega) (show lo.length < 64 by omega) HMQ.out.ro (k := 15) (by decide)
    rw [← hq1, ← hq2]; exact hm
  have K1 := hide (pRight_iff.2 HMQ.out.rt)
  have KT := hide (show pText (⟨a, b, c, d, e, f, g, h, n, lo, s, lr, lp, q1 ++ q2⟩ : Pq) = [] by unfold pText; rw [if_neg (by rw [k2]; exact Bool.noConfusion)])
  have K2 := hide k2
  have HQ1 := hide hq1
  have HQ2 := hide hq2
  clear k2 hq1 hq2
  obtain ⟨j0, hj, jz0, jz1, jz2⟩ := info_parts infoPk
  obtain ⟨x0, x1, x2, x3, x4, x5, x6, x7, x8, x9, xa, xb, xc, xd⟩ := HX2.out.cells
  obtain ⟨v0, hv0, hB0, hby0⟩ := lit_byte w2 0
  have HV0 := hide hv0
  have HBY0 := hide hby0
  have hw12 : w1.heap.size < w2.heap.size := by have := HS2.out; omega
  have hwb1 : wb.heap.size < w2.heap.size := by have := HWB.out; omega
  have HBv0 := hide hB0
  clear hv0 hB0 hby0
  go_wp2_with fail
  rw [HV0.out]
  (with_reducible refine (picks_9 a b c d e f g h n (.slice A0 lo.length c0) s (.slice A1 lr.length c1) (.slice A2 lp.length c2) (.slice none 0 0) (.slice (some ⟨w2.heap.size, 0, none⟩) 1 1) [0] _ HBY0.out (by decide) (by omega) (by omega) q1 HQ1.out).mono ?_)
  rintro x v2 ⟨A3, c3, rfl, ho1, hb1⟩
  have HO1 := hide ho1
  have HBw2 := hide (bcall HBv0.out hb1)
  have hsv0 := HBv0.out.size
  have hsv2 := hb1.size
  clear hb1 ho1
  clear x0 x1 x2 x3 x4 x5 x6 x7 x8 x9 xa xb xc xd
  obtain ⟨x0, x1, x2, x3, x4, x5, x6, x7, x8, x9, xa, xb, xc, xd⟩ := (HX2.out.below HBw2.out).cells
  obtain ⟨v3, hv3, hB3, hby3⟩ := lit_byte v2 16
  have HV3 := hide hv3
  have HBY3 := hide hby3
  have HBv3 := hide hB3
  have hsv3 := hB3.size
  have HO3 := hide (own_below HO1.out hB3)
  have HBw3 := hide (bcall HBw2.out hB3)
  clear hv3 hB3 hby3
  go_wp2_with fail
  rw [HV3.out]
  (with_reducible refine (picks_16 (.slice (some ⟨v2.heap.size, 0, none⟩) 1 1) [16] _ HBY3.out (by decide) q2 HQ2.out).mono ?_)
  rintro x v4 ⟨A6, c6, rfl, ho4, hb4⟩
  have HO4 := hide (own_below HO3.out hb4)
  have HS4 := hide (show Picks v4 (.slice A6 q2.length c6) q2 from Sl.of_own pc_len ho4)
  have HBw4 := hide (bcall HBw3.out hb4)
  have hsv4 := hb4.size
  clear ho4 hb4
  clear x0 x1 x2 x3 x4 x5 x6 x7 x8 x9 xa xb xc xd
  obtain ⟨x0, x1, x2, x3, x4, x5, x6, x7, x8, x9, xa, xb, xc, xd⟩ := (HX2.out.below HBw4.out).cells
  obtain ⟨A3_, c3_, e3_, hn3, hm3⟩ := own_form HO4.out
  clear e3_
  go_upto_region 39 with (at_builtin; refine wpList_append_sl _ rfl _ _ 28 rfl v0.heap.size 108 j0 (.agg #[.int .i64 0, .int .i64 0]) 2 16 Tryz.underlying28 hj jz0 jz1 jz2 rfl (by decide) _ _ _ rfl HO4.out _ q2 rfl HS4.out pc_len (fun p u hu => by simp [pc] at hu; rcases hu with rfl | rfl <;> rfl) (by simp only [maxLen]; omega) (by omega) (by omega) ?_; intro v' w7 hown' hbel; obtain ⟨A5, c5, rfl, hr1, hr2⟩ := own_form hown'; have HOWN2 := hide hown'; have HBEL := hide hbel; clear hown' hbel x0 x1 x2 x3 x4 x5 x6 x7 x8 x9 xa xb xc xd; obtain ⟨x0, x1, x2, x3, x4, x5, x6, x7, x8, x9, xa, xb, xc, xd⟩ := ((HX2.out.below HBw4.out).of_bel HBEL.out (by omega)).cells; have f13 := ((HX2.out.below HBw4.out).of_bel HBEL.out (by omega)).cellsF 13)
  obtain ⟨w3, e3, hbx, X3, XP3, hgr⟩ : ∃ Z, w7.setCell ⟨w1.heap.size, 13, none⟩ (.slice A5 (q1.length + q2.length) c5) = Z ∧ Below wb.heap.size wb Z ∧ Bp 30 Z w1.heap.size a b c d e f g h n (.slice A0 lo.length c0) s (.slice A1 lr.length c1) (.slice A2 lp.length c2) (.slice A5 (q1.length + q2.length) c5) ∧ Bp 30 Z wb.heap.size a b c d e f g h n (.slice A0 lo.length c0) s (.slice A1 lr.length c1) (.slice A2 lp.length c2) (.slice none 0 0) ∧ Picks Z (.slice A5 (q1.length + q2.length) c5) (q1 ++ q2) := by
    have hb7 : Below wb.heap.size v4 w7 := HBEL.out.mono (by omega)
    have hbz := ((bcall (bcall HB1.out HB2.out) HBw4.out).trans hb7).setCell (p := ⟨w1.heap.size, 13, none⟩) HWB.out (.slice A5 (q1.length + q2.length) c5)
    refine ⟨_, rfl, hbz, ⟨by rw [block_setCell ((HX2.out.below HBw4.out).of_bel HBEL.out (by omega)).blk]; rfl⟩, ⟨(Below.heap_setCell w7 ⟨w1.heap.size, 13, none⟩ _ wb.heap.size hne).trans ((HXP.out.below HBw4.out).of_bel HBEL.out (by omega)).blk⟩, ?_⟩
    have h := ownsRow_setCell_below HOWN2.out (a := ⟨w1.heap.size, 13, none⟩) (show w1.heap.size < v0.heap.size by omega) (.slice A5 (q1.length + q2.length) c5)
    have hl : q1.length + q2.length = (q1 ++ q2).length := by simp
    have h2 : (w7.setCell ⟨w1.heap.size, 13, none⟩ (.slice A5 (q1.length + q2.length) c5)).ownsRow v0.heap.size 108 2 (.slice A5 (q1.length + q2.length) c5) (q1 ++ q2).length ((q1 ++ q2).flatMap pc) := by rw [← hl, List.flatMap_append]; exact h
    exact Sl.of_own pc_len h2
  have HE3 := hide e3
  have HBX := hide hbx
  have HXQ := hide X3
  have HXP := hide XP3
  have HGR := hide hgr
  rw [HE3.out]
  clear x0 x1 x2 x3 x4 x5 x6 x7 x8 x9 xa xb xc xd
  clear f13 e3 hbx X3 XP3 hgr HE3
  have HPP := hide (HP.out.below HBX.out)
  have HPQ := hide (show PlanR w3 (.slice A0 lo.length c0) (.slice A1 lr.length c1) (.slice A2 lp.length c2) (.slice A5 (q1.length + q2.length) c5) (⟨a, b, c, d, e, f, g, h, n, lo, s, lr, lp, q1 ++ q2⟩ : Pq) from ⟨HPP.out.ob, HPP.out.rg, HPP.out.pg, HGR.out⟩)
  have HBD := hide (Below.refl w3.heap.size w3)
  have ha16 : (a == 16) = false := by simp; omega
  have hna : ¬ a = 16 := by omega
  obtain ⟨x0, x1, x2, x3, x4, x5, x6, x7, x8, x9, xa, xb, xc, xd⟩ := (HXP.out.below HBD.out).cells
  obtain ⟨z0, z1, z2, z3, z4, z5, z6, z7, z8, z9, za, zb, zc, zd⟩ := (HXQ.out.below HBD.out).cells
  go_wp2_with fail
  (with_reducible refine (pRight_c a b c d e f g h n (.slice A0 lo.length c0) s (.slice A1 lr.length c1) (.slice A2 lp.length c2) (.slice none 0 0) lo lr lp [] _ HMQ.out.ro (HPP.out.below HBD.out) true K1.out).mono ?_)
  rintro x wr1 ⟨rfl, hb⟩
  have HBD := hide (bcall HBD.out hb)
  clear hb
  clear x0 x1 x2 x3 x4 x5 x6 x7 x8 x9 xa xb xc xd
  clear z0 z1 z2 z3 z4 z5 z6 z7 z8 z9 za zb zc zd
  obtain ⟨x0, x1, x2, x3, x4, x5, x6, x7, x8, x9, xa, xb, xc, xd⟩ := (HXP.out.below HBD.out).cells
  obtain ⟨z0, z1, z2, z3, z4, z5, z6, z7, z8, z9, za, zb, zc, zd⟩ := (HXQ.out.below HBD.out).cells
  go_wp2_with fail
  (with_reducible refine (pRight_c a b c d e f g h n (.slice A0 lo.length c0) s (.slice A1 lr.length c1) (.slice A2 lp.length c2) (.slice A5 (q1.length + q2.length) c5) lo lr lp (q1 ++ q2) _ HMQ.out.ro (HPQ.out.below HBD.out) false K2.out).mono ?_)
  rintro x wr2 ⟨rfl, hb⟩
  have HBD := hide (bcall HBD.out hb)
  clear hb
  clear x0 x1 x2 x3 x4 x5 x6 x7 x8 x9 xa xb xc xd
  clear z0 z1 z2 z3 z4 z5 z6 z7 z8 z9 za zb zc zd
  obtain ⟨x0, x1, x2, x3, x4, x5, x6, x7, x8, x9, xa, xb, xc, xd⟩ := (HXP.out.below HBD.out).cells
  obtain ⟨z0, z1, z2, z3, z4, z5, z6, z7, z8, z9, za, zb, zc, zd⟩ := (HXQ.out.below HBD.out).cells
  go_wp2_with fail
  (with_reducible refine (pText_any a b c d e f g h n (.slice A0 lo.length c0) s (.slice A1 lr.length c1) (.slice A2 lp.length c2) (.slice A5 (q1.length + q2.length) c5) lo lr lp (q1 ++ q2) _ HMQ.out.ro (HPQ.out.below HBD.out) (HEn.out.below (bcall HBX.out HBD.out)) [] KT.out).mono ?_)
  rintro x wr3 ⟨rfl, hb⟩
  have HBD := hide (bcall HBD.out hb)
  clear hb
  clear x0 x1 x2 x3 x4 x5 x6 x7 x8 x9 xa xb xc xd
  clear z0 z1 z2 z3 z4 z5 z6 z7 z8 z9 za zb zc zd
  go_wp2
  go_ret
  exact ⟨rfl, bcall HBA.out (bcall HBX.out HBD.out)⟩
end Go.Proofs.YtjnokhaojpijhaaGreatDoor
