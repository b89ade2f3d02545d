/- Layer plan: the law PlanTurns, case by case. Written by tools/genplanturns.py. -/
import Derived.Test.YtjnokhaojpijhaaGreatDoorPPlanTurns0
import Derived.Test.YtjnokhaojpijhaaGreatDoorPExtra
namespace Go.Proofs.YtjnokhaojpijhaaGreatDoor
open Go.RowKit Go.Shelf Go.Proofs Go.Joins
set_option maxRecDepth 100000 in
set_option maxHeartbeats 16000000 in
theorem turns_4 (v : Value) (l : List Int) (k : Int) (w : World) (hl : Bytes w v l) (hr : ∀ b ∈ l, 0 ≤ b ∧ b ≤ 255) (ht : k.tmod 16 = 4) (hE : EnvP w) :
    Calls Tryz.prog 7 #[v, .int .u8 k] w fun x w' => x = .returned (.bool true) ∧ Below w.heap.size w w' := by
  have HE := hide hE
  have HL := hide hl
  have HR := hide hr
  have hwr : IntKind.u8.wrap 4 = 4 := by decide
  obtain ⟨Av, cv, rfl, hv1, hv2, -⟩ := id hl
  clear hl hr hE
  go_enter Tryz.func7, Tryz.ntmps7
  go_wp2_with fail
  (with_reducible refine (examples_anyPl _ HE.out).mono ?_)
  rintro x wa ⟨rfl, hb⟩
  have HBA := hide hb
  clear hb
  go_wp2_with fail
  (with_reducible refine (made_h _ l _ (HL.out.below HBA.out) HR.out).mono ?_)
  rintro x wb ⟨a, b, c, d, e, f, g, h, n, s, lo, lr, lp, A0, c0, A1, c1, A2, c2, rfl, HP, HQ, hb⟩
  have HBA := hide (bcall HBA.out hb)
  clear hb
  have hq := madeQ (byteG (l.take 90))
  rw [← HQ.out] at hq
  have HEn := hide (HE.out.below HBA.out)
  have hf1 := hP_form (p := (⟨a, b, c, d, e, f, g, h, n, lo, s, lr, lp, []⟩ : Pq)) HP.out
  dsimp only at hf1
  obtain ⟨hf0, hf1, hf2, hf3, hf4, hf5⟩ := hf1
  obtain ⟨w1, e1, hb1, hs1, X1⟩ := bp_new wb a b c d e f g h n (.slice A0 lo.length c0) s (.slice A1 lr.length c1) (.slice A2 lp.length c2) (.slice none 0 0) 30
  obtain ⟨w2, e2, hb2, hs2, X2⟩ := bp_new w1 a b c d e f g h n (.slice A0 lo.length c0) s (.slice A1 lr.length c1) (.slice A2 lp.length c2) (.slice none 0 0) 30
  have HE1 := hide e1
  have HE2 := hide e2
  have HX1 := hide X1
  have HX2 := hide X2
  have HB1 := hide hb1
  have HB2 := hide hb2
  have hne : wb.heap.size ≠ w1.heap.size := by omega
  have HS2 := hide hs2
  have HWB := hide (show wb.heap.size ≤ w1.heap.size by omega)
  clear e1 e2 X1 X2 hb1 hb2 hs1 hs2
  have hnum := hq.rt.rng
  unfold pRng at hnum
  dsimp only at hnum
  have hob := hq.ob
  have hmm := hq.mu
  have hwk := hq.wk
  dsimp only at hob hmm hwk
  have HMQ := hide hq
  clear hq
  go_upto_region 5 with (fail)
  rw [HE1.out]
  obtain ⟨x0, x1, x2, x3, x4, x5, x6, x7, x8, x9, xa, xb, xc, xd⟩ := HX1.out.cells
  go_upto_region 6 with (fail)
  rw [HE2.out]
  clear x0 x1 x2 x3 x4 x5 x6 x7 x8 x9 xa xb xc xd
  have HXP := hide (HX1.out.below HB2.out)
  have k2 : pRight (⟨a, b, 0, d, e, f, g, h, n, lo, s, lr, lp, []⟩ : Pq) = false := by
    have hm := turn_wrong HMQ.out.rt (show a < 16 by omega) (show lo.length < 64 by omega) HMQ.out.ro (k := 4) (by decide)
    exact hm
  have K1 := hide (pRight_iff.2 HMQ.out.rt)
  have KT := hide (show pText (⟨a, b, 0, d, e, f, g, h, n, lo, s, lr, lp, []⟩ : Pq) = [] by unfold pText; rw [if_neg (by rw [k2]; exact Bool.noConfusion)])
  have K2 := hide k2
  clear k2
  obtain ⟨x0, x1, x2, x3, x4, x5, x6, x7, x8, x9, xa, xb, xc, xd⟩ := HX2.out.cells
  have f2 := HX2.out.cellsF 2
  obtain ⟨w3, e3, hbx, X3, XP3⟩ : ∃ Z, w2.setCell ⟨w1.heap.size, 2, none⟩ (.int .i64 0) = Z ∧ Below wb.heap.size wb Z ∧ Bp 30 Z w1.heap.size a b 0 d e f g h n (.slice A0 lo.length c0) s (.slice A1 lr.length c1) (.slice A2 lp.length c2) (.slice none 0 0) ∧ Bp 30 Z wb.heap.size a b c d e f g h n (.slice A0 lo.length c0) s (.slice A1 lr.length c1) (.slice A2 lp.length c2) (.slice none 0 0) :=
    ⟨_, rfl, (bcall HB1.out HB2.out).setCell (p := ⟨w1.heap.size, 2, none⟩) HWB.out _, ⟨by rw [block_setCell HX2.out.blk]; rfl⟩, ⟨(Below.heap_setCell w2 ⟨w1.heap.size, 2, none⟩ _ wb.heap.size hne).trans HXP.out.blk⟩⟩
  have HE3 := hide e3
  have HBX := hide hbx
  have HXQ := hide X3
  have HXP := hide XP3
  clear e3 hbx X3 XP3
  go_upto_region 39 with (fail)
  rw [HE3.out]
  clear x0 x1 x2 x3 x4 x5 x6 x7 x8 x9 xa xb xc xd
  clear f2 HE3
  have HPP := hide (HP.out.below HBX.out)
  have HPQ := hide (show PlanR w3 (.slice A0 lo.length c0) (.slice A1 lr.length c1) (.slice A2 lp.length c2) (.slice none 0 0) (⟨a, b, 0, d, e, f, g, h, n, lo, s, lr, lp, []⟩ : Pq) from ⟨HPP.out.ob, HPP.out.rg, HPP.out.pg, HPP.out.pk⟩)
  have HBD := hide (Below.refl w3.heap.size w3)
  obtain ⟨x0, x1, x2, x3, x4, x5, x6, x7, x8, x9, xa, xb, xc, xd⟩ := (HXP.out.below HBD.out).cells
  obtain ⟨z0, z1, z2, z3, z4, z5, z6, z7, z8, z9, za, zb, zc, zd⟩ := (HXQ.out.below HBD.out).cells
  go_wp2_with fail
  (with_reducible refine (pRight_c a b c d e f g h n (.slice A0 lo.length c0) s (.slice A1 lr.length c1) (.slice A2 lp.length c2) (.slice none 0 0) lo lr lp [] _ HMQ.out.ro (HPP.out.below HBD.out) true K1.out).mono ?_)
  rintro x wr1 ⟨rfl, hb⟩
  have HBD := hide (bcall HBD.out hb)
  clear hb
  clear x0 x1 x2 x3 x4 x5 x6 x7 x8 x9 xa xb xc xd
  clear z0 z1 z2 z3 z4 z5 z6 z7 z8 z9 za zb zc zd
  obtain ⟨x0, x1, x2, x3, x4, x5, x6, x7, x8, x9, xa, xb, xc, xd⟩ := (HXP.out.below HBD.out).cells
  obtain ⟨z0, z1, z2, z3, z4, z5, z6, z7, z8, z9, za, zb, zc, zd⟩ := (HXQ.out.below HBD.out).cells
  go_wp2_with fail
  (with_reducible refine (pRight_c a b 0 d e f g h n (.slice A0 lo.length c0) s (.slice A1 lr.length c1) (.slice A2 lp.length c2) (.slice none 0 0) lo lr lp [] _ HMQ.out.ro (HPQ.out.below HBD.out) false K2.out).mono ?_)
  rintro x wr2 ⟨rfl, hb⟩
  have HBD := hide (bcall HBD.out hb)
  clear hb
  clear x0 x1 x2 x3 x4 x5 x6 x7 x8 x9 xa xb xc xd
  clear z0 z1 z2 z3 z4 z5 z6 z7 z8 z9 za zb zc zd
  obtain ⟨x0, x1, x2, x3, x4, x5, x6, x7, x8, x9, xa, xb, xc, xd⟩ := (HXP.out.below HBD.out).cells
  obtain ⟨z0, z1, z2, z3, z4, z5, z6, z7, z8, z9, za, zb, zc, zd⟩ := (HXQ.out.below HBD.out).cells
  go_wp2_with fail
  (with_reducible refine (pText_any a b 0 d e f g h n (.slice A0 lo.length c0) s (.slice A1 lr.length c1) (.slice A2 lp.length c2) (.slice none 0 0) lo lr lp [] _ HMQ.out.ro (HPQ.out.below HBD.out) (HEn.out.below (bcall HBX.out HBD.out)) [] KT.out).mono ?_)
  rintro x wr3 ⟨rfl, hb⟩
  have HBD := hide (bcall HBD.out hb)
  clear hb
  clear x0 x1 x2 x3 x4 x5 x6 x7 x8 x9 xa xb xc xd
  clear z0 z1 z2 z3 z4 z5 z6 z7 z8 z9 za zb zc zd
  go_wp2
  go_ret
  exact ⟨rfl, bcall HBA.out (bcall HBX.out HBD.out)⟩
set_option maxRecDepth 100000 in
set_option maxHeartbeats 16000000 in
theorem turns_5 (v : Value) (l : List Int) (k : Int) (w : World) (hl : Bytes w v l) (hr : ∀ b ∈ l, 0 ≤ b ∧ b ≤ 255) (ht : k.tmod 16 = 5) (hE : EnvP w) :
    Calls Tryz.prog 7 #[v, .int .u8 k] w fun x w' => x = .returned (.bool true) ∧ Below w.heap.size w w' := by
  have HE := hide hE
  have HL := hide hl
  have HR := hide hr
  have hwr : IntKind.u8.wrap 5 = 5 := by decide
  obtain ⟨Av, cv, rfl, hv1, hv2, -⟩ := id hl
  clear hl hr hE
  go_enter Tryz.func7, Tryz.ntmps7
  go_wp2_with fail
  (with_reducible refine (examples_anyPl _ HE.out).mono ?_)
  rintro x wa ⟨rfl, hb⟩
  have HBA := hide hb
  clear hb
  go_wp2_with fail
  (with_reducible refine (made_h _ l _ (HL.out.below HBA.out) HR.out).mono ?_)
  rintro x wb ⟨a, b, c, d, e, f, g, h, n, s, lo, lr, lp, A0, c0, A1, c1, A2, c2, rfl, HP, HQ, hb⟩
  have HBA := hide (bcall HBA.out hb)
  clear hb
  have hq := madeQ (byteG (l.take 90))
  rw [← HQ.out] at hq
  have HEn := hide (HE.out.below HBA.out)
  have hf1 := hP_form (p := (⟨a, b, c, d, e, f, g, h, n, lo, s, lr, lp, []⟩ : Pq)) HP.out
  dsimp only at hf1
  obtain ⟨hf0, hf1, hf2, hf3, hf4, hf5⟩ := hf1
  obtain ⟨w1, e1, hb1, hs1, X1⟩ := bp_new wb a b c d e f g h n (.slice A0 lo.length c0) s (.slice A1 lr.length c1) (.slice A2 lp.length c2) (.slice none 0 0) 30
  obtain ⟨w2, e2, hb2, hs2, X2⟩ := bp_new w1 a b c d e f g h n (.slice A0 lo.length c0) s (.slice A1 lr.length c1) (.slice A2 lp.length c2) (.slice none 0 0) 30
  have HE1 := hide e1
  have HE2 := hide e2
  have HX1 := hide X1
  have HX2 := hide X2
  have HB1 := hide hb1
  have HB2 := hide hb2
  have hne : wb.heap.size ≠ w1.heap.size := by omega
  have HS2 := hide hs2
  have HWB := hide (show wb.heap.size ≤ w1.heap.size by omega)
  clear e1 e2 X1 X2 hb1 hb2 hs1 hs2
  have hnum := hq.rt.rng
  unfold pRng at hnum
  dsimp only at hnum
  have hob := hq.ob
  have hmm := hq.mu
  have hwk := hq.wk
  dsimp only at hob hmm hwk
  have HMQ := hide hq
  clear hq
  go_upto_region 5 with (fail)
  rw [HE1.out]
  obtain ⟨x0, x1, x2, x3, x4, x5, x6, x7, x8, x9, xa, xb, xc, xd⟩ := HX1.out.cells
  go_upto_region 6 with (fail)
  rw [HE2.out]
  clear x0 x1 x2 x3 x4 x5 x6 x7 x8 x9 xa xb xc xd
  have HXP := hide (HX1.out.below HB2.out)
  have k2 : pRight (⟨a, b, 17, d, e, f, g, h, n, lo, s, lr, lp, []⟩ : Pq) = false := by
    have hm := turn_wrong HMQ.out.rt (show a < 16 by omega) (show lo.length < 64 by omega) HMQ.out.ro (k := 5) (by decide)
    exact hm
  have K1 := hide (pRight_iff.2 HMQ.out.rt)
  have KT := hide (show pText (⟨a, b, 17, d, e, f, g, h, n, lo, s, lr, lp, []⟩ : Pq) = [] by unfold pText; rw [if_neg (by rw [k2]; exact Bool.noConfusion)])
  have K2 := hide k2
  clear k2
  obtain ⟨x0, x1, x2, x3, x4, x5, x6, x7, x8, x9, xa, xb, xc, xd⟩ := HX2.out.cells
  have f2 := HX2.out.cellsF 2
  obtain ⟨w3, e3, hbx, X3, XP3⟩ : ∃ Z, w2.setCell ⟨w1.heap.size, 2, none⟩ (.int .i64 17) = Z ∧ Below wb.heap.size wb Z ∧ Bp 30 Z w1.heap.size a b 17 d e f g h n (.slice A0 lo.length c0) s (.slice A1 lr.length c1) (.slice A2 lp.length c2) (.slice none 0 0) ∧ Bp 30 Z wb.heap.size a b c d e f g h n (.slice A0 lo.length c0) s (.slice A1 lr.length c1) (.slice A2 lp.length c2) (.slice none 0 0) :=
    ⟨_, rfl, (bcall HB1.out HB2.out).setCell (p := ⟨w1.heap.size, 2, none⟩) HWB.out _, ⟨by rw [block_setCell HX2.out.blk]; rfl⟩, ⟨(Below.heap_setCell w2 ⟨w1.heap.size, 2, none⟩ _ wb.heap.size hne).trans HXP.out.blk⟩⟩
  have HE3 := hide e3
  have HBX := hide hbx
  have HXQ := hide X3
  have HXP := hide XP3
  clear e3 hbx X3 XP3
  go_upto_region 39 with (fail)
  rw [HE3.out]
  clear x0 x1 x2 x3 x4 x5 x6 x7 x8 x9 xa xb xc xd
  clear f2 HE3
  have HPP := hide (HP.out.below HBX.out)
  have HPQ := hide (show PlanR w3 (.slice A0 lo.length c0) (.slice A1 lr.length c1) (.slice A2 lp.length c2) (.slice none 0 0) (⟨a, b, 17, d, e, f, g, h, n, lo, s, lr, lp, []⟩ : Pq) from ⟨HPP.out.ob, HPP.out.rg, HPP.out.pg, HPP.out.pk⟩)
  have HBD := hide (Below.refl w3.heap.size w3)
  obtain ⟨x0, x1, x2, x3, x4, x5, x6, x7, x8, x9, xa, xb, xc, xd⟩ := (HXP.out.below HBD.out).cells
  obtain ⟨z0, z1, z2, z3, z4, z5, z6, z7, z8, z9, za, zb, zc, zd⟩ := (HXQ.out.below HBD.out).cells
  go_wp2_with fail
  (with_reducible refine (pRight_c a b c d e f g h n (.slice A0 lo.length c0) s (.slice A1 lr.length c1) (.slice A2 lp.length c2) (.slice none 0 0) lo lr lp [] _ HMQ.out.ro (HPP.out.below HBD.out) true K1.out).mono ?_)
  rintro x wr1 ⟨rfl, hb⟩
  have HBD := hide (bcall HBD.out hb)
  clear hb
  clear x0 x1 x2 x3 x4 x5 x6 x7 x8 x9 xa xb xc xd
  clear z0 z1 z2 z3 z4 z5 z6 z7 z8 z9 za zb zc zd
  obtain ⟨x0, x1, x2, x3, x4, x5, x6, x7, x8, x9, xa, xb, xc, xd⟩ := (HXP.out.below HBD.out).cells
  obtain ⟨z0, z1, z2, z3, z4, z5, z6, z7, z8, z9, za, zb, zc, zd⟩ := (HXQ.out.below HBD.out).cells
  go_wp2_with fail
  (with_reducible refine (pRight_c a b 17 d e f g h n (.slice A0 lo.length c0) s (.slice A1 lr.length c1) (.slice A2 lp.length c2) (.slice none 0 0) lo lr lp [] _ HMQ.out.ro (HPQ.out.below HBD.out) false K2.out).mono ?_)
  rintro x wr2 ⟨rfl, hb⟩
  have HBD := hide (bcall HBD.out hb)
  clear hb
  clear x0 x1 x2 x3 x4 x5 x6 x7 x8 x9 xa xb xc xd
  clear z0 z1 z2 z3 z4 z5 z6 z7 z8 z9 za zb zc zd
  obtain ⟨x0, x1, x2, x3, x4, x5, x6, x7, x8, x9, xa, xb, xc, xd⟩ := (HXP.out.below HBD.out).cells
  obtain ⟨z0, z1, z2, z3, z4, z5, z6, z7, z8, z9, za, zb, zc, zd⟩ := (HXQ.out.below HBD.out).cells
  go_wp2_with fail
  (with_reducible refine (pText_any a b 17 d e f g h n (.slice A0 lo.length c0) s (.slice A1 lr.length c1) (.slice A2 lp.length c2) (.slice none 0 0) lo lr lp [] _ HMQ.out.ro (HPQ.out.below HBD.out) (HEn.out.below (bcall HBX.out HBD.out)) [] KT.out).mono ?_)
  rintro x wr3 ⟨rfl, hb⟩
  have HBD := hide (bcall HBD.out hb)
  clear hb
  clear x0 x1 x2 x3 x4 x5 x6 x7 x8 x9 xa xb xc xd
  clear z0 z1 z2 z3 z4 z5 z6 z7 z8 z9 za zb zc zd
  go_wp2
  go_ret
  exact ⟨rfl, bcall HBA.out (bcall HBX.out HBD.out)⟩
set_option maxRecDepth 100000 in
set_option maxHeartbeats 16000000 in
theorem turns_6 (v : Value) (l : List Int) (k : Int) (w : World) (hl : Bytes w v l) (hr : ∀ b ∈ l, 0 ≤ b ∧ b ≤ 255) (ht : k.tmod 16 = 6) (hE : EnvP w) :
    Calls Tryz.prog 7 #[v, .int .u8 k] w fun x w' => x = .returned (.bool true) ∧ Below w.heap.size w w' := by
  have HE := hide hE
  have HL := hide hl
  have HR := hide hr
  have hwr : IntKind.u8.wrap 6 = 6 := by decide
  obtain ⟨Av, cv, rfl, hv1, hv2, -⟩ := id hl
  clear hl hr hE
  go_enter Tryz.func7, Tryz.ntmps7
  go_wp2_with fail
  (with_reducible refine (examples_anyPl _ HE.out).mono ?_)
  rintro x wa ⟨rfl, hb⟩
  have HBA := hide hb
  clear hb
  go_wp2_with fail
  (with_reducible refine (made_h _ l _ (HL.out.below HBA.out) HR.out).mono ?_)
  rintro x wb ⟨a, b, c, d, e, f, g, h, n, s, lo, lr, lp, A0, c0, A1, c1, A2, c2, rfl, HP, HQ, hb⟩
  have HBA := hide (bcall HBA.out hb)
  clear hb
  have hq := madeQ (byteG (l.take 90))
  rw [← HQ.out] at hq
  have HEn := hide (HE.out.below HBA.out)
  have hf1 := hP_form (p := (⟨a, b, c, d, e, f, g, h, n, lo, s, lr, lp, []⟩ : Pq)) HP.out
  dsimp only at hf1
  obtain ⟨hf0, hf1, hf2, hf3, hf4, hf5⟩ := hf1
  obtain ⟨w1, e1, hb1, hs1, X1⟩ := bp_new wb a b c d e f g h n (.slice A0 lo.length c0) s (.slice A1 lr.length c1) (.slice A2 lp.length c2) (.slice none 0 0) 30
  obtain ⟨w2, e2, hb2, hs2, X2⟩ := bp_new w1 a b c d e f g h n (.slice A0 lo.length c0) s (.slice A1 lr.length c1) (.slice A2 lp.length c2) (.slice none 0 0) 30
  have HE1 := hide e1
  have HE2 := hide e2
  have HX1 := hide X1
  have HX2 := hide X2
  have HB1 := hide hb1
  have HB2 := hide hb2
  have hne : wb.heap.size ≠ w1.heap.size := by omega
  have HS2 := hide hs2
  have HWB := hide (show wb.heap.size ≤ w1.heap.size by omega)
  clear e1 e2 X1 X2 hb1 hb2 hs1 hs2
  have hnum := hq.rt.rng
  unfold pRng at hnum
  dsimp only at hnum
  have hob := hq.ob
  have hmm := hq.mu
  have hwk := hq.wk
  dsimp only at hob hmm hwk
  have HMQ := hide hq
  clear hq
  go_upto_region 5 with (fail)
  rw [HE1.out]
  obtain ⟨x0, x1, x2, x3, x4, x5, x6, x7, x8, x9, xa, xb, xc, xd⟩ := HX1.out.cells
  go_upto_region 6 with (fail)
  rw [HE2.out]
  clear x0 x1 x2 x3 x4 x5 x6 x7 x8 x9 xa xb xc xd
  have HXP := hide (HX1.out.below HB2.out)
  have k2 : pRight (⟨a, b, c, 9, e, f, g, h, n, lo, s, lr, lp, []⟩ : Pq) = false := by
    have hm := turn_wrong HMQ.out.rt (show a < 16 by omega) (show lo.length < 64 by omega) HMQ.out.ro (k := 6) (by decide)
    exact hm
  have K1 := hide (pRight_iff.2 HMQ.out.rt)
  have KT := hide (show pText (⟨a, b, c, 9, e, f, g, h, n, lo, s, lr, lp, []⟩ : Pq) = [] by unfold pText; rw [if_neg (by rw [k2]; exact Bool.noConfusion)])
  have K2 := hide k2
  clear k2
  obtain ⟨x0, x1, x2, x3, x4, x5, x6, x7, x8, x9, xa, xb, xc, xd⟩ := HX2.out.cells
  have f3 := HX2.out.cellsF 3
  obtain ⟨w3, e3, hbx, X3, XP3⟩ : ∃ Z, w2.setCell ⟨w1.heap.size, 3, none⟩ (.int .i64 9) = Z ∧ Below wb.heap.size wb Z ∧ Bp 30 Z w1.heap.size a b c 9 e f g h n (.slice A0 lo.length c0) s (.slice A1 lr.length c1) (.slice A2 lp.length c2) (.slice none 0 0) ∧ Bp 30 Z wb.heap.size a b c d e f g h n (.slice A0 lo.length c0) s (.slice A1 lr.length c1) (.slice A2 lp.length c2) (.slice none 0 0) :=
    ⟨_, rfl, (bcall HB1.out HB2.out).setCell (p := ⟨w1.heap.size, 3, none⟩) HWB.out _, ⟨by rw [block_setCell HX2.out.blk]; rfl⟩, ⟨(Below.heap_setCell w2 ⟨w1.heap.size, 3, none⟩ _ wb.heap.size hne).trans HXP.out.blk⟩⟩
  have HE3 := hide e3
  have HBX := hide hbx
  have HXQ := hide X3
  have HXP := hide XP3
  clear e3 hbx X3 XP3
  go_upto_region 39 with (fail)
  rw [HE3.out]
  clear x0 x1 x2 x3 x4 x5 x6 x7 x8 x9 xa xb xc xd
  clear f3 HE3
  have HPP := hide (HP.out.below HBX.out)
  have HPQ := hide (show PlanR w3 (.slice A0 lo.length c0) (.slice A1 lr.length c1) (.slice A2 lp.length c2) (.slice none 0 0) (⟨a, b, c, 9, e, f, g, h, n, lo, s, lr, lp, []⟩ : Pq) from ⟨HPP.out.ob, HPP.out.rg, HPP.out.pg, HPP.out.pk⟩)
  have HBD := hide (Below.refl w3.heap.size w3)
  obtain ⟨x0, x1, x2, x3, x4, x5, x6, x7, x8, x9, xa, xb, xc, xd⟩ := (HXP.out.below HBD.out).cells
  obtain ⟨z0, z1, z2, z3, z4, z5, z6, z7, z8, z9, za, zb, zc, zd⟩ := (HXQ.out.below HBD.out).cells
  go_wp2_with fail
  (with_reducible refine (pRight_c a b c d e f g h n (.slice A0 lo.length c0) s (.slice A1 lr.length c1) (.slice A2 lp.length c2) (.slice none 0 0) lo lr lp [] _ HMQ.out.ro (HPP.out.below HBD.out) true K1.out).mono ?_)
  rintro x wr1 ⟨rfl, hb⟩
  have HBD := hide (bcall HBD.out hb)
  clear hb
  clear x0 x1 x2 x3 x4 x5 x6 x7 x8 x9 xa xb xc xd
  clear z0 z1 z2 z3 z4 z5 z6 z7 z8 z9 za zb zc zd
  obtain ⟨x0, x1, x2, x3, x4, x5, x6, x7, x8, x9, xa, xb, xc, xd⟩ := (HXP.out.below HBD.out).cells
  obtain ⟨z0, z1, z2, z3, z4, z5, z6, z7, z8, z9, za, zb, zc, zd⟩ := (HXQ.out.below HBD.out).cells
  go_wp2_with fail
  (with_reducible refine (pRight_c a b c 9 e f g h n (.slice A0 lo.length c0) s (.slice A1 lr.length c1) (.slice A2 lp.length c2) (.slice none 0 0) lo lr lp [] _ HMQ.out.ro (HPQ.out.below HBD.out) false K2.out).mono ?_)
  rintro x wr2 ⟨rfl, hb⟩
  have HBD := hide (bcall HBD.out hb)
  clear hb
  clear x0 x1 x2 x3 x4 x5 x6 x7 x8 x9 xa xb xc xd
  clear z0 z1 z2 z3 z4 z5 z6 z7 z8 z9 za zb zc zd
  obtain ⟨x0, x1, x2, x3, x4, x5, x6, x7, x8, x9, xa, xb, xc, xd⟩ := (HXP.out.below HBD.out).cells
  obtain ⟨z0, z1, z2, z3, z4, z5, z6, z7, z8, z9, za, zb, zc, zd⟩ := (HXQ.out.below HBD.out).cells
  go_wp2_with fail
  (with_reducible refine (pText_any a b c 9 e f g h n (.slice A0 lo.length c0) s (.slice A1 lr.length c1) (.slice A2 lp.length c2) (.slice none 0 0) lo lr lp [] _ HMQ.out.ro (HPQ.out.below HBD.out) (HEn.out.below (bcall HBX.out HBD.out)) [] KT.out).mono ?_)
  rintro x wr3 ⟨rfl, hb⟩
  have HBD := hide (bcall HBD.out hb)
  clear hb
  clear x0 x1 x2 x3 x4 x5 x6 x7 x8 x9 xa xb xc xd
  clear z0 z1 z2 z3 z4 z5 z6 z7 z8 z9 za zb zc zd
  go_wp2
  go_ret
  exact ⟨rfl, bcall HBA.out (bcall HBX.out HBD.out)⟩
set_option maxRecDepth 100000 in
set_option maxHeartbeats 16000000 in
theorem turns_7 (v : Value) (l : List Int) (k : Int) (w : World) (hl : Bytes w v l) (hr : ∀ b ∈ l, 0 ≤ b ∧ b ≤ 255) (ht : k.tmod 16 = 7) (hE : EnvP w) :
    Calls Tryz.prog 7 #[v, .int .u8 k] w fun x w' => x = .returned (.bool true) ∧ Below w.heap.size w w' := by
  have HE := hide hE
  have HL := hide hl
  have HR := hide hr
  have hwr : IntKind.u8.wrap 7 = 7 := by decide
  obtain ⟨Av, cv, rfl, hv1, hv2, -⟩ := id hl
  clear hl hr hE
  go_enter Tryz.func7, Tryz.ntmps7
  go_wp2_with fail
  (with_reducible refine (examples_anyPl _ HE.out).mono ?_)
  rintro x wa ⟨rfl, hb⟩
  have HBA := hide hb
  clear hb
  go_wp2_with fail
  (with_reducible refine (made_h _ l _ (HL.out.below HBA.out) HR.out).mono ?_)
  rintro x wb ⟨a, b, c, d, e, f, g, h, n, s, lo, lr, lp, A0, c0, A1, c1, A2, c2, rfl, HP, HQ, hb⟩
  have HBA := hide (bcall HBA.out hb)
  clear hb
  have hq := madeQ (byteG (l.take 90))
  rw [← HQ.out] at hq
  have HEn := hide (HE.out.below HBA.out)
  have hf1 := hP_form (p := (⟨a, b, c, d, e, f, g, h, n, lo, s, lr, lp, []⟩ : Pq)) HP.out
  dsimp only at hf1
  obtain ⟨hf0, hf1, hf2, hf3, hf4, hf5⟩ := hf1
  obtain ⟨w1, e1, hb1, hs1, X1⟩ := bp_new wb a b c d e f g h n (.slice A0 lo.length c0) s (.slice A1 lr.length c1) (.slice A2 lp.length c2) (.slice none 0 0) 30
  obtain ⟨w2, e2, hb2, hs2, X2⟩ := bp_new w1 a b c d e f g h n (.slice A0 lo.length c0) s (.slice A1 lr.length c1) (.slice A2 lp.length c2) (.slice none 0 0) 30
  have HE1 := hide e1
  have HE2 := hide e2
  have HX1 := hide X1
  have HX2 := hide X2
  have HB1 := hide hb1
  have HB2 := hide hb2
  have hne : wb.heap.size ≠ w1.heap.size := by omega
  have HS2 := hide hs2
  have HWB := hide (show wb.heap.size ≤ w1.heap.size by omega)
  clear e1 e2 X1 X2 hb1 hb2 hs1 hs2
  have hnum := hq.rt.rng
  unfold pRng at hnum
  dsimp only at hnum
  have hob := hq.ob
  have hmm := hq.mu
  have hwk := hq.wk
  dsimp only at hob hmm hwk
  have HMQ := hide hq
  clear hq
  go_upto_region 5 with (fail)
  rw [HE1.out]
  obtain ⟨x0, x1, x2, x3, x4, x5, x6, x7, x8, x9, xa, xb, xc, xd⟩ := HX1.out.cells
  go_upto_region 6 with (fail)
  rw [HE2.out]
  clear x0 x1 x2 x3 x4 x5 x6 x7 x8 x9 xa xb xc xd
  have HXP := hide (HX1.out.below HB2.out)
  have k2 : pRight (⟨a, b, c, d, 0, f, g, h, n, lo, s, lr, lp, []⟩ : Pq) = false := by
    have hm := turn_wrong HMQ.out.rt (show a < 16 by omega) (show lo.length < 64 by omega) HMQ.out.ro (k := 7) (by decide)
    exact hm
  have K1 := hide (pRight_iff.2 HMQ.out.rt)
  have KT := hide (show pText (⟨a, b, c, d, 0, f, g, h, n, lo, s, lr, lp, []⟩ : Pq) = [] by unfold pText; rw [if_neg (by rw [k2]; exact Bool.noConfusion)])
  have K2 := hide k2
  clear k2
  obtain ⟨x0, x1, x2, x3, x4, x5, x6, x7, x8, x9, xa, xb, xc, xd⟩ := HX2.out.cells
  have f4 := HX2.out.cellsF 4
  obtain ⟨w3, e3, hbx, X3, XP3⟩ : ∃ Z, w2.setCell ⟨w1.heap.size, 4, none⟩ (.int .i64 0) = Z ∧ Below wb.heap.size wb Z ∧ Bp 30 Z w1.heap.size a b c d 0 f g h n (.slice A0 lo.length c0) s (.slice A1 lr.length c1) (.slice A2 lp.length c2) (.slice none 0 0) ∧ Bp 30 Z wb.heap.size a b c d e f g h n (.slice A0 lo.length c0) s (.slice A1 lr.length c1) (.slice A2 lp.length c2) (.slice none 0 0) :=
    ⟨_, rfl, (bcall HB1.out HB2.out).setCell (p := ⟨w1.heap.size, 4, none⟩) HWB.out _, ⟨by rw [block_setCell HX2.out.blk]; rfl⟩, ⟨(Below.heap_setCell w2 ⟨w1.heap.size, 4, none⟩ _ wb.heap.size hne).trans HXP.out.blk⟩⟩
  have HE3 := hide e3
  have HBX := hide hbx
  have HXQ := hide X3
  have HXP := hide XP3
  clear e3 hbx X3 XP3
  go_upto_region 39 with (fail)
  rw [HE3.out]
  clear x0 x1 x2 x3 x4 x5 x6 x7 x8 x9 xa xb xc xd
  clear f4 HE3
  have HPP := hide (HP.out.below HBX.out)
  have HPQ := hide (show PlanR w3 (.slice A0 lo.length c0) (.slice A1 lr.length c1) (.slice A2 lp.length c2) (.slice none 0 0) (⟨a, b, c, d, 0, f, g, h, n, lo, s, lr, lp, []⟩ : Pq) from ⟨HPP.out.ob, HPP.out.rg, HPP.out.pg, HPP.out.pk⟩)
  have HBD := hide (Below.refl w3.heap.size w3)
  obtain ⟨x0, x1, x2, x3, x4, x5, x6, x7, x8, x9, xa, xb, xc, xd⟩ := (HXP.out.below HBD.out).cells
  obtain ⟨z0, z1, z2, z3, z4, z5, z6, z7, z8, z9, za, zb, zc, zd⟩ := (HXQ.out.below HBD.out).cells
  go_wp2_with fail
  (with_reducible refine (pRight_c a b c d e f g h n (.slice A0 lo.length c0) s (.slice A1 lr.length c1) (.slice A2 lp.length c2) (.slice none 0 0) lo lr lp [] _ HMQ.out.ro (HPP.out.below HBD.out) true K1.out).mono ?_)
  rintro x wr1 ⟨rfl, hb⟩
  have HBD := hide (bcall HBD.out hb)
  clear hb
  clear x0 x1 x2 x3 x4 x5 x6 x7 x8 x9 xa xb xc xd
  clear z0 z1 z2 z3 z4 z5 z6 z7 z8 z9 za zb zc zd
  obtain ⟨x0, x1, x2, x3, x4, x5, x6, x7, x8, x9, xa, xb, xc, xd⟩ := (HXP.out.below HBD.out).cells
  obtain ⟨z0, z1, z2, z3, z4, z5, z6, z7, z8, z9, za, zb, zc, zd⟩ := (HXQ.out.below HBD.out).cells
  go_wp2_with fail
  (with_reducible refine (pRight_c a b c d 0 f g h n (.slice A0 lo.length c0) s (.slice A1 lr.length c1) (.slice A2 lp.length c2) (.slice none 0 0) lo lr lp [] _ HMQ.out.ro (HPQ.out.below HBD.out) false K2.out).mono ?_)
  rintro x wr2 ⟨rfl, hb⟩
  have HBD := hide (bcall HBD.out hb)
  clear hb
  clear x0 x1 x2 x3 x4 x5 x6 x7 x8 x9 xa xb xc xd
  clear z0 z1 z2 z3 z4 z5 z6 z7 z8 z9 za zb zc zd
  obtain ⟨x0, x1, x2, x3, x4, x5, x6, x7, x8, x9, xa, xb, xc, xd⟩ := (HXP.out.below HBD.out).cells
  obtain ⟨z0, z1, z2, z3, z4, z5, z6, z7, z8, z9, za, zb, zc, zd⟩ := (HXQ.out.below HBD.out).cells
  go_wp2_with fail
  (with_reducible refine (pText_any a b c d 0 f g h n (.slice A0 lo.length c0) s (.slice A1 lr.length c1) (.slice A2 lp.length c2) (.slice none 0 0) lo lr lp [] _ HMQ.out.ro (HPQ.out.below HBD.out) (HEn.out.below (bcall HBX.out HBD.out)) [] KT.out).mono ?_)
  rintro x wr3 ⟨rfl, hb⟩
  have HBD := hide (bcall HBD.out hb)
  clear hb
  clear x0 x1 x2 x3 x4 x5 x6 x7 x8 x9 xa xb xc xd
  clear z0 z1 z2 z3 z4 z5 z6 z7 z8 z9 za zb zc zd
  go_wp2
  go_ret
  exact ⟨rfl, bcall HBA.out (bcall HBX.out HBD.out)⟩
end Go.Proofs.YtjnokhaojpijhaaGreatDoor
