/- Layer plan: the law PlanBack. Written by tools/genplanback.py. -/
import Derived.Test.YtjnokhaojpijhaaGreatDoorPPlanBack0
namespace Go.Proofs.YtjnokhaojpijhaaGreatDoor
open Go.RowKit Go.Shelf Go.Proofs Go.Joins
set_option maxRecDepth 100000 in
set_option maxHeartbeats 16000000 in
theorem back_any (na nb nc nd ne nf ng nh nn : Int) (ob : Value) (ns : Nat) (rg pg pk : Value) (mo mr : Rws) (mp : List (List Oq)) (mk : List PP) (S : ByteArray) (v : Value) (l : List Int) (v2 : Value) (l2 : List Int) (w : World) (hP : PlanR w ob rg pg pk (⟨na, nb, nc, nd, ne, nf, ng, nh, nn, mo, ns, mr, mp, mk⟩ : Pq)) (hns : ns < 18446744073709551616) (hS : S.size ≤ 1048576) (hl : Bytes w v l) (hr : ∀ b ∈ l, 0 ≤ b ∧ b ≤ 255) (hl2 : Bytes w v2 l2) (hr2 : ∀ b ∈ l2, 0 ≤ b ∧ b ≤ 255) (hE : EnvP w)  :
    Calls Tryz.prog 4 #[planV na nb nc nd ne nf ng nh nn ob ns rg pg pk, .string S, v, v2] w fun x w' => x = .returned (.bool true) ∧ Below w.heap.size w w' := by
  obtain ⟨E0, m0, rfl, hm0a, hm0b⟩ := hP.ob.form
  obtain ⟨E1, m1, rfl, hm1a, hm1b⟩ := hP.rg.form
  obtain ⟨E2, m2, rfl, hm2a, hm2b⟩ := hP.pg.form
  obtain ⟨E3, m3, rfl, hm3a, hm3b, -⟩ := id hP.pk
  dsimp only at hm0a hm1a hm2a hm3a
  unfold maxLen at hm0b hm1b hm2b hm3b
  have HE := hide hE
  have HPA := hide hP
  have HB := hide (Below.refl w.heap.size w)
  have HL := hide hl
  have HL2 := hide hl2
  have HR := hide hr
  have HR2 := hide hr2
  have HNS := hide hns
  obtain ⟨Av, cv, rfl, hv1, hv2, -⟩ := id hl
  obtain ⟨Av2, cv2, rfl, hv3, hv4, -⟩ := id hl2
  unfold maxLen at hv2 hv4
  clear hP hns hl hr hl2 hr2 hE
  obtain ⟨w1, e1, hb1, -, X1⟩ := bp_new w na nb nc nd ne nf ng nh nn (.slice E0 mo.length m0) ns (.slice E1 mr.length m1) (.slice E2 mp.length m2) (.slice E3 mk.length m3) 30
  have HXA := hide X1
  have HE1 := hide e1
  have HE := hide (HE.out.below hb1)
  have HPA := hide (HPA.out.below hb1)
  have HB := hide (bcall HB.out hb1)
  have HL := hide (HL.out.below hb1)
  have HL2 := hide (HL2.out.below hb1)
  clear e1 hb1 X1
  unfold planV
  go_enter Tryz.func4, Tryz.ntmps4
  go_upto_region 1 with (fail)
  rw [HE1.out]
  go_wp2_with fail
  (with_reducible refine (examples_anyPl _ HE.out).mono ?_)
  rintro x y1_ ⟨rfl, hb1_⟩
  have HE := hide (HE.out.below hb1_)
  have HPA := hide (HPA.out.below hb1_)
  have HB := hide (bcall HB.out hb1_)
  have HL := hide (HL.out.below hb1_)
  have HL2 := hide (HL2.out.below hb1_)
  have HXA := hide (HXA.out.below hb1_)
  clear hb1_
  go_wp2_with fail
  (with_reducible refine (made_h _ l _ HL.out HR.out).mono ?_)
  rintro x y2_ ⟨a, b, c, d, e, f, g, h, n, s, lo, lr, lp, A0, c0, A1, c1, A2, c2, rfl, HPB, HQ, hb2_⟩
  have HE := hide (HE.out.below hb2_)
  have HPA := hide (HPA.out.below hb2_)
  have HB := hide (bcall HB.out hb2_)
  have HL := hide (HL.out.below hb2_)
  have HL2 := hide (HL2.out.below hb2_)
  have HXA := hide (HXA.out.below hb2_)
  clear hb2_
  have hq := madeQ (byteG (l.take 90))
  have hmr := fun (ps : List PP) => made_right (byteG (l.take 90)) (ps := ps)
  rw [← HQ.out] at hq hmr
  have ha3 : a = 1 + byteG (l.take 90) 0 % 3 := congrArg Pq.wk HQ.out
  have hb3 : b = byteG (l.take 90) 1 % 3 := congrArg Pq.mu HQ.out
  rw [← ha3, ← hb3] at hmr
  clear ha3 hb3
  have hnum := hq.rt.rng
  unfold pRng at hnum
  dsimp only at hnum hmr
  obtain ⟨hf0, hf1, hf2, hf3, hf4, hf5⟩ := hP_form (p := (⟨a, b, c, d, e, f, g, h, n, lo, s, lr, lp, []⟩ : Pq)) HPB.out
  dsimp only at hf0 hf2 hf4
  have HSB := hide hq.ro
  clear hq
  have SE := HE
  have SPA := HPA
  have SXA := HXA
  have SB := HB
  have SPB := HPB
  have HBS := hide (Below.refl y2_.heap.size y2_)
  obtain ⟨y3_, ey3_, hby3_, -, Xy3_⟩ := bp_new y2_ a b c d e f g h n (.slice A0 lo.length c0) s (.slice A1 lr.length c1) (.slice A2 lp.length c2) (.slice none 0 0) 30
  have HE := hide (HE.out.below hby3_)
  have HPA := hide (HPA.out.below hby3_)
  have HB := hide (bcall HB.out hby3_)
  have HL := hide (HL.out.below hby3_)
  have HL2 := hide (HL2.out.below hby3_)
  have HXA := hide (HXA.out.below hby3_)
  have HPB := hide (HPB.out.below hby3_)
  have HBS := hide (bcall HBS.out hby3_)
  have HXP := hide Xy3_
  have HEy3_ := hide ey3_
  clear ey3_ hby3_ Xy3_
  go_upto_region 5 with (fail)
  rw [HEy3_.out]
  have HLT := hide HXP.out.lt
  obtain ⟨q, hqq⟩ : ∃ q, picksG a b l2 200 = q := ⟨_, rfl⟩
  have hqt := picks_there (wk := a) (mu := b) (by omega) (by omega) l2 200
  rw [hqq] at hqt
  have hRT := hmr q (by omega) hqt.2
  have hql : q.length ≤ 200 := hqt.1
  have HRT := hide hRT
  have HQQ := hide hqq
  clear hmr hqq hqt hRT
  obtain ⟨z0, z1, z2, z3, z4, z5, z6, z7, z8, z9, za, zb, zc, zd⟩ := HXP.out.cells
  go_wp2_with fail
  (with_reducible refine (picks_200 a b c d e f g h n (.slice A0 lo.length c0) s (.slice A1 lr.length c1) (.slice A2 lp.length c2) (.slice none 0 0) (.slice Av2 l2.length cv2) l2 _ HL2.out HR2.out (by omega) (by omega) q HQQ.out).mono ?_)
  rintro x y4_ ⟨A3, c3, rfl, ho, hb4_⟩
  clear z0 z1 z2 z3 z4 z5 z6 z7 z8 z9 za zb zc zd
  have HE := hide (HE.out.below hb4_)
  have HPA := hide (HPA.out.below hb4_)
  have HB := hide (bcall HB.out hb4_)
  have HL := hide (HL.out.below hb4_)
  have HL2 := hide (HL2.out.below hb4_)
  have HXA := hide (HXA.out.below hb4_)
  have HPB := hide (HPB.out.below hb4_)
  have HBS := hide (bcall HBS.out hb4_)
  have HXP := hide (HXP.out.below hb4_)
  clear hb4_
  have HPK := hide (show Picks y4_ (.slice A3 q.length c3) q from Sl.of_own pc_len ho)
  obtain ⟨A3_, c3_, e3_, hc3a, hc3b⟩ := own_form ho
  injection e3_ with e3a e3b e3c
  subst e3c
  unfold maxLen at hc3b
  clear e3a e3b
  have HO := hide ho
  clear ho
  have HPB := hide (show PlanR y4_ (.slice A0 lo.length c0) (.slice A1 lr.length c1) (.slice A2 lp.length c2) (.slice A3 q.length c3) (⟨a, b, c, d, e, f, g, h, n, lo, s, lr, lp, q⟩ : Pq) from ⟨HPB.out.ob, HPB.out.rg, HPB.out.pg, HPK.out⟩)
  obtain ⟨z0, z1, z2, z3, z4, z5, z6, z7, z8, z9, za, zb, zc, zd⟩ := HXP.out.cells
  have f13 := HXP.out.cellsF 13
  obtain ⟨w7, e7, hbz⟩ : ∃ Z, y4_.setCell ⟨y2_.heap.size, 13, none⟩ (.slice A3 q.length c3) = Z ∧ Below y2_.heap.size y2_ Z := ⟨_, rfl, HBS.out.setCell (p := ⟨y2_.heap.size, 13, none⟩) (Nat.le_refl _) _⟩
  have X7 : Bp 30 w7 y2_.heap.size a b c d e f g h n (.slice A0 lo.length c0) s (.slice A1 lr.length c1) (.slice A2 lp.length c2) (.slice A3 q.length c3) := by rw [← e7]; exact ⟨by rw [block_setCell HXP.out.blk]; rfl⟩
  have P7 : Picks w7 (.slice A3 q.length c3) q := by rw [← e7]; exact Sl.of_own pc_len (ownsRow_setCell_below HO.out (show y2_.heap.size < y3_.heap.size from HLT.out) _)
  have HE := hide (SE.out.below hbz)
  have HPA := hide (SPA.out.below hbz)
  have HXA := hide (SXA.out.below hbz)
  have HB := hide (bcall SB.out hbz)
  have hq1 := SPB.out.below hbz
  have HPB := hide (show PlanR w7 (.slice A0 lo.length c0) (.slice A1 lr.length c1) (.slice A2 lp.length c2) (.slice A3 q.length c3) (⟨a, b, c, d, e, f, g, h, n, lo, s, lr, lp, q⟩ : Pq) from ⟨hq1.ob, hq1.rg, hq1.pg, P7⟩)
  have HXP := hide X7
  have HE7 := hide e7
  clear e7 hbz X7 P7 hq1 SE SPA SXA SB SPB HBS HL HL2
  go_upto_region 6 with (fail)
  rw [HE7.out]
  clear z0 z1 z2 z3 z4 z5 z6 z7 z8 z9 za zb zc zd
  clear f13 HE7
  obtain ⟨z0, z1, z2, z3, z4, z5, z6, z7, z8, z9, za, zb, zc, zd⟩ := HXA.out.cells
  obtain ⟨x0, x1, x2, x3, x4, x5, x6, x7, x8, x9, xa, xb, xc, xd⟩ := HXP.out.cells
  obtain ⟨w8, e8, hb8, hk8⟩ := bk_mk w7 (.cells #[.int .i64 na, .int .i64 nb, .int .i64 nc, .int .i64 nd, .int .i64 ne, .int .i64 nf, .int .i64 ng, .int .i64 nh, .int .i64 nn, .slice E0 mo.length m0, .int .u64 (ns : Int), .slice E1 mr.length m1, .slice E2 mp.length m2, .slice E3 mk.length m3, .int .i64 a, .int .i64 b, .int .i64 c, .int .i64 d, .int .i64 e, .int .i64 f, .int .i64 g, .int .i64 h, .int .i64 n, .slice A0 lo.length c0, .int .u64 (s : Int), .slice A1 lr.length c1, .slice A2 lp.length c2, .slice A3 q.length c3] 30)
  have HE := hide (HE.out.below hb8)
  have HPA := hide (HPA.out.below hb8)
  have HB := hide (bcall HB.out hb8)
  have HXA := hide (HXA.out.below hb8)
  have HPB := hide (HPB.out.below hb8)
  have HXP := hide (HXP.out.below hb8)
  have HBK := hide hk8
  have HE8 := hide e8
  clear e8 hb8 hk8
  go_wp2
  rw [HE8.out]
  go_loopw [12, 13, 14, 32] (fun _ _ _ iv wr => ∃ j : Nat, j ≤ 2 ∧ iv = .int .i64 j ∧ Hid (EnvP wr) ∧ Hid (PlanR wr (.slice E0 mo.length m0) (.slice E1 mr.length m1) (.slice E2 mp.length m2) (.slice E3 mk.length m3) (⟨na, nb, nc, nd, ne, nf, ng, nh, nn, mo, ns, mr, mp, mk⟩ : Pq)) ∧ Hid (PlanR wr (.slice A0 lo.length c0) (.slice A1 lr.length c1) (.slice A2 lp.length c2) (.slice A3 q.length c3) (⟨a, b, c, d, e, f, g, h, n, lo, s, lr, lp, q⟩ : Pq)) ∧ Hid (Bp 30 wr y2_.heap.size a b c d e f g h n (.slice A0 lo.length c0) s (.slice A1 lr.length c1) (.slice A2 lp.length c2) (.slice A3 q.length c3)) ∧ Hid (Bk wr w7.heap.size (.cells #[.int .i64 na, .int .i64 nb, .int .i64 nc, .int .i64 nd, .int .i64 ne, .int .i64 nf, .int .i64 ng, .int .i64 nh, .int .i64 nn, .slice E0 mo.length m0, .int .u64 (ns : Int), .slice E1 mr.length m1, .slice E2 mp.length m2, .slice E3 mk.length m3, .int .i64 a, .int .i64 b, .int .i64 c, .int .i64 d, .int .i64 e, .int .i64 f, .int .i64 g, .int .i64 h, .int .i64 n, .slice A0 lo.length c0, .int .u64 (s : Int), .slice A1 lr.length c1, .slice A2 lp.length c2, .slice A3 q.length c3] 30)) ∧ Hid (Below w.heap.size w wr)) (fun _ _ _ iv _ => 2 - (intOf iv).toNat)
  case atStart => exact ⟨0, by omega, rfl, HE, HPA, HPB, HXP, HBK, HB⟩
  case round =>
    clear HE HPA HPB HXP HBK HB HXA
    obtain ⟨j, hj, rfl, HE, HPA, HPB, HXP, HBK, HB⟩ := hrel
    have hpa := HPA
    rcases (show j = 0 ∨ j = 1 ∨ j = 2 by omega) with rfl | rfl | rfl
    all_goals clear hj hpa
    · cases k1 : pRight (⟨na, nb, nc, nd, ne, nf, ng, nh, nn, mo, ns, mr, mp, mk⟩ : Pq)
      · as_aux_lemma =>
        obtain ⟨TT, hTT⟩ : ∃ T, pText (⟨na, nb, nc, nd, ne, nf, ng, nh, nn, mo, ns, mr, mp, mk⟩ : Pq) = T := ⟨_, rfl⟩
        have hTn : TT = [] := by rw [← hTT]; exact plan_none k1
        have hPT : pParse TT = (zeroQ, 2) := by rw [hTn]; decide +kernel
        have hsz : TT.length ≤ 20000000 := by rw [hTn]; decide
        clear hTn
        have K1 := hide k1
        have HTT := hide hTT
        have HPT := hide hPT
        have HSZ := hide (show (⟨TT.toArray⟩ : ByteArray).size ≤ 8796093022208 by rw [ba_size]; omega)
        clear k1 hTT hPT hsz
        have z0 := cell_of_block HBK.out 0
        have z1 := cell_of_block HBK.out 1
        have z2 := cell_of_block HBK.out 2
        have z3 := cell_of_block HBK.out 3
        have z4 := cell_of_block HBK.out 4
        have z5 := cell_of_block HBK.out 5
        have z6 := cell_of_block HBK.out 6
        have z7 := cell_of_block HBK.out 7
        have z8 := cell_of_block HBK.out 8
        have z9 := cell_of_block HBK.out 9
        have za := cell_of_block HBK.out 10
        have zb := cell_of_block HBK.out 11
        have zc := cell_of_block HBK.out 12
        have zd := cell_of_block HBK.out 13
        obtain ⟨y21_, ey21_, hby21_, -, Xy21_⟩ := bp_new wr na nb nc nd ne nf ng nh nn (.slice E0 mo.length m0) ns (.slice E1 mr.length m1) (.slice E2 mp.length m2) (.slice E3 mk.length m3) 30
        have HE := hide (HE.out.below hby21_)
        have HPA := hide (HPA.out.below hby21_)
        have HPB := hide (HPB.out.below hby21_)
        have HXP := hide (HXP.out.below hby21_)
        have HBK := hide (HBK.out.below hby21_)
        have HB := hide (bcall HB.out hby21_)
        have HXx := hide Xy21_
        have HEy21_ := hide ey21_
        clear ey21_ hby21_ Xy21_
        go_upto_region 9 with (fail)
        rw [HEy21_.out]
        clear z0 z1 z2 z3 z4 z5 z6 z7 z8 z9 za zb zc zd
        obtain ⟨z0, z1, z2, z3, z4, z5, z6, z7, z8, z9, za, zb, zc, zd⟩ := HXx.out.cells
        go_wp2_with fail
        (with_reducible refine (pText_any na nb nc nd ne nf ng nh nn (.slice E0 mo.length m0) ns (.slice E1 mr.length m1) (.slice E2 mp.length m2) (.slice E3 mk.length m3) mo mr mp mk _ HNS.out HPA.out HE.out TT HTT.out).mono ?_)
        rintro x y22_ ⟨rfl, hb22_⟩
        clear z0 z1 z2 z3 z4 z5 z6 z7 z8 z9 za zb zc zd
        have HE := hide (HE.out.below hb22_)
        have HPA := hide (HPA.out.below hb22_)
        have HPB := hide (HPB.out.below hb22_)
        have HXP := hide (HXP.out.below hb22_)
        have HBK := hide (HBK.out.below hb22_)
        have HB := hide (bcall HB.out hb22_)
        have HXx := hide (HXx.out.below hb22_)
        clear hb22_
        go_wp2_with fail
        (with_reducible refine (pParse_h _ _ HSZ.out HE.out zeroQ 2 HPT.out 0 0 0 0 rfl rfl rfl rfl).mono ?_)
        rintro x y23_ ⟨va, vb, vc, vd, ve, vf, vg, vh, vi, vs, -, -, -, -, V0, t0, V1, t1, V2, t2, V3, t3, rfl, -, -, hb23_⟩
        have HE := hide (HE.out.below hb23_)
        have HPA := hide (HPA.out.below hb23_)
        have HPB := hide (HPB.out.below hb23_)
        have HXP := hide (HXP.out.below hb23_)
        have HBK := hide (HBK.out.below hb23_)
        have HB := hide (bcall HB.out hb23_)
        have HXx := hide (HXx.out.below hb23_)
        clear hb23_
        obtain ⟨y24_, ey24_, hby24_, -, Xy24_⟩ := bp_new y23_ va vb vc vd ve vf vg vh vi (.slice V0 0 t0) vs (.slice V1 0 t1) (.slice V2 0 t2) (.slice V3 0 t3) 30
        have HE := hide (HE.out.below hby24_)
        have HPA := hide (HPA.out.below hby24_)
        have HPB := hide (HPB.out.below hby24_)
        have HXP := hide (HXP.out.below hby24_)
        have HBK := hide (HBK.out.below hby24_)
        have HB := hide (bcall HB.out hby24_)
        have HXx := hide (HXx.out.below hby24_)
        have HXy := hide Xy24_
        have HEy24_ := hide ey24_
        clear ey24_ hby24_ Xy24_
        go_upto_region 10 with (fail)
        rw [HEy24_.out]
        obtain ⟨z0, z1, z2, z3, z4, z5, z6, z7, z8, z9, za, zb, zc, zd⟩ := HXx.out.cells
        go_wp2_with fail
        (with_reducible refine (pRight_c na nb nc nd ne nf ng nh nn (.slice E0 mo.length m0) ns (.slice E1 mr.length m1) (.slice E2 mp.length m2) (.slice E3 mk.length m3) mo mr mp mk _ HNS.out HPA.out false K1.out).mono ?_)
        rintro x y25_ ⟨rfl, hb25_⟩
        clear z0 z1 z2 z3 z4 z5 z6 z7 z8 z9 za zb zc zd
        have HE := hide (HE.out.below hb25_)
        have HPA := hide (HPA.out.below hb25_)
        have HPB := hide (HPB.out.below hb25_)
        have HXP := hide (HXP.out.below hb25_)
        have HBK := hide (HBK.out.below hb25_)
        have HB := hide (bcall HB.out hb25_)
        have HXx := hide (HXx.out.below hb25_)
        have HXy := hide (HXy.out.below hb25_)
        clear hb25_
        go_wp2
        go_roundw
        case rel => exact ⟨1, by omega, by go_num, HE, HPA, HPB, HXP, HBK, HB⟩
        case measure => simp [intOf]
      · as_aux_lemma =>
        obtain ⟨TT, hTT⟩ : ∃ T, pText (⟨na, nb, nc, nd, ne, nf, ng, nh, nn, mo, ns, mr, mp, mk⟩ : Pq) = T := ⟨_, rfl⟩
        have hPT : pParse TT = ((⟨na, nb, nc, nd, ne, nf, ng, nh, nn, mo, ns, mr, mp, mk⟩ : Pq), 0) := by rw [← hTT]; exact plan_back k1 HNS.out
        have hsz : TT.length ≤ 20000000 := by rw [← hTT, text_is (pRight_iff.1 k1)]; exact text_small (pRight_iff.1 k1)
        have K1 := hide k1
        have HTT := hide hTT
        have HPT := hide hPT
        have HSZ := hide (show (⟨TT.toArray⟩ : ByteArray).size ≤ 8796093022208 by rw [ba_size]; omega)
        clear k1 hTT hPT hsz
        have z0 := cell_of_block HBK.out 0
        have z1 := cell_of_block HBK.out 1
        have z2 := cell_of_block HBK.out 2
        have z3 := cell_of_block HBK.out 3
        have z4 := cell_of_block HBK.out 4
        have z5 := cell_of_block HBK.out 5
        have z6 := cell_of_block HBK.out 6
        have z7 := cell_of_block HBK.out 7
        have z8 := cell_of_block HBK.out 8
        have z9 := cell_of_block HBK.out 9
        have za := cell_of_block HBK.out 10
        have zb := cell_of_block HBK.out 11
        have zc := cell_of_block HBK.out 12
        have zd := cell_of_block HBK.out 13
        obtain ⟨y21_, ey21_, hby21_, -, Xy21_⟩ := bp_new wr na nb nc nd ne nf ng nh nn (.slice E0 mo.length m0) ns (.slice E1 mr.length m1) (.slice E2 mp.length m2) (.slice E3 mk.length m3) 30
        have HE := hide (HE.out.below hby21_)
        have HPA := hide (HPA.out.below hby21_)
        have HPB := hide (HPB.out.below hby21_)
        have HXP := hide (HXP.out.below hby21_)
        have HBK := hide (HBK.out.below hby21_)
        have HB := hide (bcall HB.out hby21_)
        have HXx := hide Xy21_
        have HEy21_ := hide ey21_
        clear ey21_ hby21_ Xy21_
        go_upto_region 9 with (fail)
        rw [HEy21_.out]
        clear z0 z1 z2 z3 z4 z5 z6 z7 z8 z9 za zb zc zd
        obtain ⟨z0, z1, z2, z3, z4, z5, z6, z7, z8, z9, za, zb, zc, zd⟩ := HXx.out.cells
        go_wp2_with fail
        (with_reducible refine (pText_any na nb nc nd ne nf ng nh nn (.slice E0 mo.length m0) ns (.slice E1 mr.length m1) (.slice E2 mp.length m2) (.slice E3 mk.length m3) mo mr mp mk _ HNS.out HPA.out HE.out TT HTT.out).mono ?_)
        rintro x y22_ ⟨rfl, hb22_⟩
        clear z0 z1 z2 z3 z4 z5 z6 z7 z8 z9 za zb zc zd
        have HE := hide (HE.out.below hb22_)
        have HPA := hide (HPA.out.below hb22_)
        have HPB := hide (HPB.out.below hb22_)
        have HXP := hide (HXP.out.below hb22_)
        have HBK := hide (HBK.out.below hb22_)
        have HB := hide (bcall HB.out hb22_)
        have HXx := hide (HXx.out.below hb22_)
        clear hb22_
        go_wp2_with fail
        (with_reducible refine (pParse_h _ _ HSZ.out HE.out (⟨na, nb, nc, nd, ne, nf, ng, nh, nn, mo, ns, mr, mp, mk⟩ : Pq) 0 HPT.out mo.length mr.length mp.length mk.length rfl rfl rfl rfl).mono ?_)
        rintro x y23_ ⟨va, vb, vc, vd, ve, vf, vg, vh, vi, vs, vo, vr, vp, vk, V0, t0, V1, t1, V2, t2, V3, t3, rfl, HY, HYQ, hb23_⟩
        have HE := hide (HE.out.below hb23_)
        have HPA := hide (HPA.out.below hb23_)
        have HPB := hide (HPB.out.below hb23_)
        have HXP := hide (HXP.out.below hb23_)
        have HBK := hide (HBK.out.below hb23_)
        have HB := hide (bcall HB.out hb23_)
        have HXx := hide (HXx.out.below hb23_)
        clear hb23_
        obtain ⟨y24_, ey24_, hby24_, -, Xy24_⟩ := bp_new y23_ va vb vc vd ve vf vg vh vi (.slice V0 mo.length t0) vs (.slice V1 mr.length t1) (.slice V2 mp.length t2) (.slice V3 mk.length t3) 30
        have HE := hide (HE.out.below hby24_)
        have HPA := hide (HPA.out.below hby24_)
        have HPB := hide (HPB.out.below hby24_)
        have HXP := hide (HXP.out.below hby24_)
        have HBK := hide (HBK.out.below hby24_)
        have HB := hide (bcall HB.out hby24_)
        have HXx := hide (HXx.out.below hby24_)
        have HY := hide (HY.out.below hby24_)
        have HXy := hide Xy24_
        have HEy24_ := hide ey24_
        clear ey24_ hby24_ Xy24_
        go_upto_region 10 with (fail)
        rw [HEy24_.out]
        obtain ⟨z0, z1, z2, z3, z4, z5, z6, z7, z8, z9, za, zb, zc, zd⟩ := HXx.out.cells
        go_wp2_with fail
        (with_reducible refine (pRight_c na nb nc nd ne nf ng nh nn (.slice E0 mo.length m0) ns (.slice E1 mr.length m1) (.slice E2 mp.length m2) (.slice E3 mk.length m3) mo mr mp mk _ HNS.out HPA.out true K1.out).mono ?_)
        rintro x y25_ ⟨rfl, hb25_⟩
        clear z0 z1 z2 z3 z4 z5 z6 z7 z8 z9 za zb zc zd
        have HE := hide (HE.out.below hb25_)
        have HPA := hide (HPA.out.below hb25_)
        have HPB := hide (HPB.out.below hb25_)
        have HXP := hide (HXP.out.below hb25_)
        have HBK := hide (HBK.out.below hb25_)
        have HB := hide (bcall HB.out hb25_)
        have HXx := hide (HXx.out.below hb25_)
        have HY := hide (HY.out.below hb25_)
        have HXy := hide (HXy.out.below hb25_)
        clear hb25_
        obtain ⟨z0, z1, z2, z3, z4, z5, z6, z7, z8, z9, za, zb, zc, zd⟩ := HXx.out.cells
        obtain ⟨x0, x1, x2, x3, x4, x5, x6, x7, x8, x9, xa, xb, xc, xd⟩ := HXy.out.cells
        go_wp2_with fail
        (with_reducible refine (pSame_c na nb nc nd ne nf ng nh nn (.slice E0 mo.length m0) ns (.slice E1 mr.length m1) (.slice E2 mp.length m2) (.slice E3 mk.length m3) mo mr mp mk va vb vc vd ve vf vg vh vi (.slice V0 mo.length t0) vs (.slice V1 mr.length t1) (.slice V2 mp.length t2) (.slice V3 mk.length t3) vo vr vp vk _ HPA.out HY.out true (decide_eq_true HYQ.out.symm)).mono ?_)
        rintro x y26_ ⟨rfl, hb26_⟩
        clear z0 z1 z2 z3 z4 z5 z6 z7 z8 z9 za zb zc zd x0 x1 x2 x3 x4 x5 x6 x7 x8 x9 xa xb xc xd
        have HE := hide (HE.out.below hb26_)
        have HPA := hide (HPA.out.below hb26_)
        have HPB := hide (HPB.out.below hb26_)
        have HXP := hide (HXP.out.below hb26_)
        have HBK := hide (HBK.out.below hb26_)
        have HB := hide (bcall HB.out hb26_)
        have HXx := hide (HXx.out.below hb26_)
        have HY := hide (HY.out.below hb26_)
        have HXy := hide (HXy.out.below hb26_)
        clear hb26_
        go_wp2
        go_roundw
        case rel => exact ⟨1, by omega, by go_num, HE, HPA, HPB, HXP, HBK, HB⟩
        case measure => simp [intOf]
    · as_aux_lemma =>
      have k1 : pRight (⟨a, b, c, d, e, f, g, h, n, lo, s, lr, lp, q⟩ : Pq) = true := pRight_iff.2 HRT.out
      obtain ⟨TT, hTT⟩ : ∃ T, pText (⟨a, b, c, d, e, f, g, h, n, lo, s, lr, lp, q⟩ : Pq) = T := ⟨_, rfl⟩
      have hPT : pParse TT = ((⟨a, b, c, d, e, f, g, h, n, lo, s, lr, lp, q⟩ : Pq), 0) := by rw [← hTT]; exact plan_back k1 HSB.out
      have hsz : TT.length ≤ 20000000 := by rw [← hTT, text_is (pRight_iff.1 k1)]; exact text_small (pRight_iff.1 k1)
      have K1 := hide k1
      have HTT := hide hTT
      have HPT := hide hPT
      have HSZ := hide (show (⟨TT.toArray⟩ : ByteArray).size ≤ 8796093022208 by rw [ba_size]; omega)
      clear k1 hTT hPT hsz
      have z0 := cell_of_block HBK.out 14
      have z1 := cell_of_block HBK.out 15
      have z2 := cell_of_block HBK.out 16
      have z3 := cell_of_block HBK.out 17
      have z4 := cell_of_block HBK.out 18
      have z5 := cell_of_block HBK.out 19
      have z6 := cell_of_block HBK.out 20
      have z7 := cell_of_block HBK.out 21
      have z8 := cell_of_block HBK.out 22
      have z9 := cell_of_block HBK.out 23
      have za := cell_of_block HBK.out 24
      have zb := cell_of_block HBK.out 25
      have zc := cell_of_block HBK.out 26
      have zd := cell_of_block HBK.out 27
      obtain ⟨y21_, ey21_, hby21_, -, Xy21_⟩ := bp_new wr a b c d e f g h n (.slice A0 lo.length c0) s (.slice A1 lr.length c1) (.slice A2 lp.length c2) (.slice A3 q.length c3) 30
      have HE := hide (HE.out.below hby21_)
      have HPA := hide (HPA.out.below hby21_)
      have HPB := hide (HPB.out.below hby21_)
      have HXP := hide (HXP.out.below hby21_)
      have HBK := hide (HBK.out.below hby21_)
      have HB := hide (bcall HB.out hby21_)
      have HXx := hide Xy21_
      have HEy21_ := hide ey21_
      clear ey21_ hby21_ Xy21_
      go_upto_region 9 with (fail)
      rw [HEy21_.out]
      clear z0 z1 z2 z3 z4 z5 z6 z7 z8 z9 za zb zc zd
      obtain ⟨z0, z1, z2, z3, z4, z5, z6, z7, z8, z9, za, zb, zc, zd⟩ := HXx.out.cells
      go_wp2_with fail
      (with_reducible refine (pText_any a b c d e f g h n (.slice A0 lo.length c0) s (.slice A1 lr.length c1) (.slice A2 lp.length c2) (.slice A3 q.length c3) lo lr lp q _ HSB.out HPB.out HE.out TT HTT.out).mono ?_)
      rintro x y22_ ⟨rfl, hb22_⟩
      clear z0 z1 z2 z3 z4 z5 z6 z7 z8 z9 za zb zc zd
      have HE := hide (HE.out.below hb22_)
      have HPA := hide (HPA.out.below hb22_)
      have HPB := hide (HPB.out.below hb22_)
      have HXP := hide (HXP.out.below hb22_)
      have HBK := hide (HBK.out.below hb22_)
      have HB := hide (bcall HB.out hb22_)
      have HXx := hide (HXx.out.below hb22_)
      clear hb22_
      go_wp2_with fail
      (with_reducible refine (pParse_h _ _ HSZ.out HE.out (⟨a, b, c, d, e, f, g, h, n, lo, s, lr, lp, q⟩ : Pq) 0 HPT.out lo.length lr.length lp.length q.length rfl rfl rfl rfl).mono ?_)
      rintro x y23_ ⟨va, vb, vc, vd, ve, vf, vg, vh, vi, vs, vo, vr, vp, vk, V0, t0, V1, t1, V2, t2, V3, t3, rfl, HY, HYQ, hb23_⟩
      have HE := hide (HE.out.below hb23_)
      have HPA := hide (HPA.out.below hb23_)
      have HPB := hide (HPB.out.below hb23_)
      have HXP := hide (HXP.out.below hb23_)
      have HBK := hide (HBK.out.below hb23_)
      have HB := hide (bcall HB.out hb23_)
      have HXx := hide (HXx.out.below hb23_)
      clear hb23_
      obtain ⟨y24_, ey24_, hby24_, -, Xy24_⟩ := bp_new y23_ va vb vc vd ve vf vg vh vi (.slice V0 lo.length t0) vs (.slice V1 lr.length t1) (.slice V2 lp.length t2) (.slice V3 q.length t3) 30
      have HE := hide (HE.out.below hby24_)
      have HPA := hide (HPA.out.below hby24_)
      have HPB := hide (HPB.out.below hby24_)
      have HXP := hide (HXP.out.below hby24_)
      have HBK := hide (HBK.out.below hby24_)
      have HB := hide (bcall HB.out hby24_)
      have HXx := hide (HXx.out.below hby24_)
      have HY := hide (HY.out.below hby24_)
      have HXy := hide Xy24_
      have HEy24_ := hide ey24_
      clear ey24_ hby24_ Xy24_
      go_upto_region 10 with (fail)
      rw [HEy24_.out]
      obtain ⟨z0, z1, z2, z3, z4, z5, z6, z7, z8, z9, za, zb, zc, zd⟩ := HXx.out.cells
      go_wp2_with fail
      (with_reducible refine (pRight_c a b c d e f g h n (.slice A0 lo.length c0) s (.slice A1 lr.length c1) (.slice A2 lp.length c2) (.slice A3 q.length c3) lo lr lp q _ HSB.out HPB.out true K1.out).mono ?_)
      rintro x y25_ ⟨rfl, hb25_⟩
      clear z0 z1 z2 z3 z4 z5 z6 z7 z8 z9 za zb zc zd
      have HE := hide (HE.out.below hb25_)
      have HPA := hide (HPA.out.below hb25_)
      have HPB := hide (HPB.out.below hb25_)
      have HXP := hide (HXP.out.below hb25_)
      have HBK := hide (HBK.out.below hb25_)
      have HB := hide (bcall HB.out hb25_)
      have HXx := hide (HXx.out.below hb25_)
      have HY := hide (HY.out.below hb25_)
      have HXy := hide (HXy.out.below hb25_)
      clear hb25_
      obtain ⟨z0, z1, z2, z3, z4, z5, z6, z7, z8, z9, za, zb, zc, zd⟩ := HXx.out.cells
      obtain ⟨x0, x1, x2, x3, x4, x5, x6, x7, x8, x9, xa, xb, xc, xd⟩ := HXy.out.cells
      go_wp2_with fail
      (with_reducible refine (pSame_c a b c d e f g h n (.slice A0 lo.length c0) s (.slice A1 lr.length c1) (.slice A2 lp.length c2) (.slice A3 q.length c3) lo lr lp q va vb vc vd ve vf vg vh vi (.slice V0 lo.length t0) vs (.slice V1 lr.length t1) (.slice V2 lp.length t2) (.slice V3 q.length t3) vo vr vp vk _ HPB.out HY.out true (decide_eq_true HYQ.out.symm)).mono ?_)
      rintro x y26_ ⟨rfl, hb26_⟩
      clear z0 z1 z2 z3 z4 z5 z6 z7 z8 z9 za zb zc zd x0 x1 x2 x3 x4 x5 x6 x7 x8 x9 xa xb xc xd
      have HE := hide (HE.out.below hb26_)
      have HPA := hide (HPA.out.below hb26_)
      have HPB := hide (HPB.out.below hb26_)
      have HXP := hide (HXP.out.below hb26_)
      have HBK := hide (HBK.out.below hb26_)
      have HB := hide (bcall HB.out hb26_)
      have HXx := hide (HXx.out.below hb26_)
      have HY := hide (HY.out.below hb26_)
      have HXy := hide (HXy.out.below hb26_)
      clear hb26_
      go_wp2
      go_roundw
      case rel => exact ⟨2, by omega, by go_num, HE, HPA, HPB, HXP, HBK, HB⟩
      case measure => simp [intOf]
    · clear HPA HBK
      by_cases hk0 : (pParse S.data.toList).2 = 0
      · as_aux_lemma =>
        have HK0 := hide hk0
        clear hk0
        have hpr := parse_ro S.data.toList
        obtain ⟨Q, hQ⟩ : ∃ Q, (pParse S.data.toList).1 = Q := ⟨_, rfl⟩
        obtain ⟨K, hK⟩ : ∃ K, (pParse S.data.toList).2 = K := ⟨_, rfl⟩
        have hqk : pParse S.data.toList = (Q, K) := by rw [← hQ, ← hK]
        rw [hQ] at hpr
        have HQK := hide hqk
        have HPR := hide hpr
        have h0 := HK0.out
        have h1 : pRight (pParse S.data.toList).1 = true := by
          rcases parse_casesPl S.data.toList with ⟨_, h⟩ | ⟨h, _⟩
          · exact h
          · exact absurd h0 h
        rw [hK] at h0
        rw [hQ] at h1
        subst h0
        clear hQ hqk hpr hK HK0
        obtain ⟨T2, hT2⟩ : ∃ T, pText Q = T := ⟨_, rfl⟩
        have hPT : pParse T2 = (Q, 0) := by rw [← hT2]; exact plan_back h1 HPR.out
        have hsz : T2.length ≤ 20000000 := by rw [← hT2, text_is (pRight_iff.1 h1)]; exact text_small (pRight_iff.1 h1)
        have H1 := hide h1
        have HT2 := hide hT2
        have HPT := hide hPT
        have HSZ := hide (show (⟨T2.toArray⟩ : ByteArray).size ≤ 8796093022208 by rw [ba_size]; omega)
        obtain ⟨N0, hN0⟩ : ∃ k, Q.ob.length = k := ⟨_, rfl⟩
        obtain ⟨N1, hN1⟩ : ∃ k, Q.rg.length = k := ⟨_, rfl⟩
        obtain ⟨N2, hN2⟩ : ∃ k, Q.pg.length = k := ⟨_, rfl⟩
        obtain ⟨N3, hN3⟩ : ∃ k, Q.pk.length = k := ⟨_, rfl⟩
        have HN0 := hide hN0
        have HN1 := hide hN1
        have HN2 := hide hN2
        have HN3 := hide hN3
        clear h1 hT2 hPT hsz hN0 hN1 hN2 hN3
        go_wp2_with fail
        (with_reducible refine (pParse_h S _ (by omega) HE.out Q 0 HQK.out N0 N1 N2 N3 HN0.out HN1.out HN2.out HN3.out).mono ?_)
        rintro x y41_ ⟨va, vb, vc, vd, ve, vf, vg, vh, vi, vs, vo, vr, vp, vk, V0, t0, V1, t1, V2, t2, V3, t3, rfl, HZ, HZQ, hb41_⟩
        have HE := hide (HE.out.below hb41_)
        have HPB := hide (HPB.out.below hb41_)
        have HXP := hide (HXP.out.below hb41_)
        have HB := hide (bcall HB.out hb41_)
        clear hb41_
        have HVS := hide (show vs < 18446744073709551616 by have h := HPR.out; rw [← HZQ.out] at h; exact h)
        have HTZ := hide (show pText (⟨va, vb, vc, vd, ve, vf, vg, vh, vi, vo, vs, vr, vp, vk⟩ : Pq) = T2 by rw [HZQ.out]; exact HT2.out)
        have HRZ := hide (show pRight (⟨va, vb, vc, vd, ve, vf, vg, vh, vi, vo, vs, vr, vp, vk⟩ : Pq) = true by rw [HZQ.out]; exact H1.out)
        obtain ⟨y42_, ey42_, hby42_, -, Xy42_⟩ := bp_new y41_ va vb vc vd ve vf vg vh vi (.slice V0 N0 t0) vs (.slice V1 N1 t1) (.slice V2 N2 t2) (.slice V3 N3 t3) 30
        have HE := hide (HE.out.below hby42_)
        have HPB := hide (HPB.out.below hby42_)
        have HXP := hide (HXP.out.below hby42_)
        have HB := hide (bcall HB.out hby42_)
        have HZ := hide (HZ.out.below hby42_)
        have HXz := hide Xy42_
        have HEy42_ := hide ey42_
        clear ey42_ hby42_ Xy42_
        go_upto_region 14 with (fail)
        rw [HEy42_.out]
        obtain ⟨z0, z1, z2, z3, z4, z5, z6, z7, z8, z9, za, zb, zc, zd⟩ := HXz.out.cells
        go_wp2_with fail
        (with_reducible refine (pText_any va vb vc vd ve vf vg vh vi (.slice V0 N0 t0) vs (.slice V1 N1 t1) (.slice V2 N2 t2) (.slice V3 N3 t3) vo vr vp vk _ HVS.out HZ.out HE.out T2 HTZ.out).mono ?_)
        rintro x y43_ ⟨rfl, hb43_⟩
        clear z0 z1 z2 z3 z4 z5 z6 z7 z8 z9 za zb zc zd
        have HE := hide (HE.out.below hb43_)
        have HPB := hide (HPB.out.below hb43_)
        have HXP := hide (HXP.out.below hb43_)
        have HB := hide (bcall HB.out hb43_)
        have HZ := hide (HZ.out.below hb43_)
        have HXz := hide (HXz.out.below hb43_)
        clear hb43_
        go_wp2_with fail
        (with_reducible refine (pParse_h _ _ HSZ.out HE.out Q 0 HPT.out N0 N1 N2 N3 HN0.out HN1.out HN2.out HN3.out).mono ?_)
        rintro x y44_ ⟨ua, ub, uc, ud, ue, uf, ug, uh, ui, us, uo, ur, up, uk, U0, r0, U1, r1, U2, r2, U3, r3, rfl, HW, HWQ, hb44_⟩
        have HE := hide (HE.out.below hb44_)
        have HPB := hide (HPB.out.below hb44_)
        have HXP := hide (HXP.out.below hb44_)
        have HB := hide (bcall HB.out hb44_)
        have HZ := hide (HZ.out.below hb44_)
        have HXz := hide (HXz.out.below hb44_)
        clear hb44_
        obtain ⟨y45_, ey45_, hby45_, -, Xy45_⟩ := bp_new y44_ ua ub uc ud ue uf ug uh ui (.slice U0 N0 r0) us (.slice U1 N1 r1) (.slice U2 N2 r2) (.slice U3 N3 r3) 30
        have HE := hide (HE.out.below hby45_)
        have HPB := hide (HPB.out.below hby45_)
        have HXP := hide (HXP.out.below hby45_)
        have HB := hide (bcall HB.out hby45_)
        have HZ := hide (HZ.out.below hby45_)
        have HXz := hide (HXz.out.below hby45_)
        have HW := hide (HW.out.below hby45_)
        have HXw := hide Xy45_
        have HEy45_ := hide ey45_
        clear ey45_ hby45_ Xy45_
        go_upto_region 15 with (fail)
        rw [HEy45_.out]
        obtain ⟨z0, z1, z2, z3, z4, z5, z6, z7, z8, z9, za, zb, zc, zd⟩ := HXz.out.cells
        go_wp2_with fail
        (with_reducible refine (pRight_c va vb vc vd ve vf vg vh vi (.slice V0 N0 t0) vs (.slice V1 N1 t1) (.slice V2 N2 t2) (.slice V3 N3 t3) vo vr vp vk _ HVS.out HZ.out true HRZ.out).mono ?_)
        rintro x y46_ ⟨rfl, hb46_⟩
        clear z0 z1 z2 z3 z4 z5 z6 z7 z8 z9 za zb zc zd
        have HE := hide (HE.out.below hb46_)
        have HPB := hide (HPB.out.below hb46_)
        have HXP := hide (HXP.out.below hb46_)
        have HB := hide (bcall HB.out hb46_)
        have HZ := hide (HZ.out.below hb46_)
        have HXz := hide (HXz.out.below hb46_)
        have HW := hide (HW.out.below hb46_)
        have HXw := hide (HXw.out.below hb46_)
        clear hb46_
        obtain ⟨z0, z1, z2, z3, z4, z5, z6, z7, z8, z9, za, zb, zc, zd⟩ := HXz.out.cells
        obtain ⟨x0, x1, x2, x3, x4, x5, x6, x7, x8, x9, xa, xb, xc, xd⟩ := HXw.out.cells
        go_wp2_with fail
        (with_reducible refine (pSame_c va vb vc vd ve vf vg vh vi (.slice V0 N0 t0) vs (.slice V1 N1 t1) (.slice V2 N2 t2) (.slice V3 N3 t3) vo vr vp vk ua ub uc ud ue uf ug uh ui (.slice U0 N0 r0) us (.slice U1 N1 r1) (.slice U2 N2 r2) (.slice U3 N3 r3) uo ur up uk _ HZ.out HW.out true (decide_eq_true (HZQ.out.trans HWQ.out.symm))).mono ?_)
        rintro x y47_ ⟨rfl, hb47_⟩
        clear z0 z1 z2 z3 z4 z5 z6 z7 z8 z9 za zb zc zd x0 x1 x2 x3 x4 x5 x6 x7 x8 x9 xa xb xc xd
        have HE := hide (HE.out.below hb47_)
        have HPB := hide (HPB.out.below hb47_)
        have HXP := hide (HXP.out.below hb47_)
        have HB := hide (bcall HB.out hb47_)
        have HZ := hide (HZ.out.below hb47_)
        have HXz := hide (HXz.out.below hb47_)
        have HW := hide (HW.out.below hb47_)
        have HXw := hide (HXw.out.below hb47_)
        clear hb47_
        obtain ⟨x0, x1, x2, x3, x4, x5, x6, x7, x8, x9, xa, xb, xc, xd⟩ := HXP.out.cells
        go_wp2_with fail
        (with_reducible refine (pRight_c a b c d e f g h n (.slice A0 lo.length c0) s (.slice A1 lr.length c1) (.slice A2 lp.length c2) (.slice A3 q.length c3) lo lr lp q _ HSB.out HPB.out true (pRight_iff.2 HRT.out)).mono ?_)
        rintro x y48_ ⟨rfl, hb48_⟩
        clear x0 x1 x2 x3 x4 x5 x6 x7 x8 x9 xa xb xc xd
        have HE := hide (HE.out.below hb48_)
        have HPB := hide (HPB.out.below hb48_)
        have HXP := hide (HXP.out.below hb48_)
        have HB := hide (bcall HB.out hb48_)
        have HZ := hide (HZ.out.below hb48_)
        have HXz := hide (HXz.out.below hb48_)
        have HW := hide (HW.out.below hb48_)
        have HXw := hide (HXw.out.below hb48_)
        clear hb48_
        go_wp2
        go_ret
        exact ⟨rfl, HB.out⟩
      · as_aux_lemma =>
        have HK0 := hide hk0
        clear hk0
        have hpr := parse_ro S.data.toList
        obtain ⟨Q, hQ⟩ : ∃ Q, (pParse S.data.toList).1 = Q := ⟨_, rfl⟩
        obtain ⟨K, hK⟩ : ∃ K, (pParse S.data.toList).2 = K := ⟨_, rfl⟩
        have hqk : pParse S.data.toList = (Q, K) := by rw [← hQ, ← hK]
        rw [hQ] at hpr
        have HQK := hide hqk
        have HPR := hide hpr
        have h0 := HK0.out
        have h1 : (pParse S.data.toList).1 = zeroQ := by
          rcases parse_casesPl S.data.toList with ⟨h, _⟩ | ⟨_, h⟩
          · exact absurd h h0
          · exact h
        rw [hK] at h0
        rw [hQ] at h1
        subst h1
        have hkz : (K != 0) = true := by rw [bne_iff_ne]; exact h0
        clear hQ hqk hpr hK HK0
        go_wp2_with fail
        (with_reducible refine (pParse_h S _ (by omega) HE.out zeroQ K HQK.out 0 0 0 0 rfl rfl rfl rfl).mono ?_)
        rintro x y61_ ⟨va, vb, vc, vd, ve, vf, vg, vh, vi, vs, vo, vr, vp, vk, V0, t0, V1, t1, V2, t2, V3, t3, rfl, HZ, HZQ, hb61_⟩
        have HE := hide (HE.out.below hb61_)
        have HB := hide (bcall HB.out hb61_)
        clear hb61_
        have HVS := hide (show vs < 18446744073709551616 by have h := congrArg Pq.ro HZQ.out; dsimp only [zeroQ] at h; omega)
        have HTZ := hide (show pText (⟨va, vb, vc, vd, ve, vf, vg, vh, vi, vo, vs, vr, vp, vk⟩ : Pq) = [] by rw [HZQ.out]; decide +kernel)
        obtain ⟨y62_, ey62_, hby62_, -, Xy62_⟩ := bp_new y61_ va vb vc vd ve vf vg vh vi (.slice V0 0 t0) vs (.slice V1 0 t1) (.slice V2 0 t2) (.slice V3 0 t3) 30
        have HE := hide (HE.out.below hby62_)
        have HB := hide (bcall HB.out hby62_)
        have HZ := hide (HZ.out.below hby62_)
        have HXz := hide Xy62_
        have HEy62_ := hide ey62_
        clear ey62_ hby62_ Xy62_
        go_upto_region 14 with (fail)
        rw [HEy62_.out]
        obtain ⟨z0, z1, z2, z3, z4, z5, z6, z7, z8, z9, za, zb, zc, zd⟩ := HXz.out.cells
        go_wp2_with fail
        (with_reducible refine (pText_any va vb vc vd ve vf vg vh vi (.slice V0 0 t0) vs (.slice V1 0 t1) (.slice V2 0 t2) (.slice V3 0 t3) vo vr vp vk _ HVS.out HZ.out HE.out [] HTZ.out).mono ?_)
        rintro x y63_ ⟨rfl, hb63_⟩
        clear z0 z1 z2 z3 z4 z5 z6 z7 z8 z9 za zb zc zd
        have HE := hide (HE.out.below hb63_)
        have HB := hide (bcall HB.out hb63_)
        have HZ := hide (HZ.out.below hb63_)
        have HXz := hide (HXz.out.below hb63_)
        clear hb63_
        go_wp2_with fail
        (with_reducible refine (pParse_h _ _ (by decide) HE.out zeroQ 2 (by decide +kernel) 0 0 0 0 rfl rfl rfl rfl).mono ?_)
        rintro x y64_ ⟨ua, ub, uc, ud, ue, uf, ug, uh, ui, us, -, -, -, -, U0, r0, U1, r1, U2, r2, U3, r3, rfl, -, -, hb64_⟩
        have HE := hide (HE.out.below hb64_)
        have HB := hide (bcall HB.out hb64_)
        have HZ := hide (HZ.out.below hb64_)
        have HXz := hide (HXz.out.below hb64_)
        clear hb64_
        obtain ⟨y65_, ey65_, hby65_, -, Xy65_⟩ := bp_new y64_ ua ub uc ud ue uf ug uh ui (.slice U0 0 r0) us (.slice U1 0 r1) (.slice U2 0 r2) (.slice U3 0 r3) 30
        have HE := hide (HE.out.below hby65_)
        have HB := hide (bcall HB.out hby65_)
        have HZ := hide (HZ.out.below hby65_)
        have HXz := hide (HXz.out.below hby65_)
        have HXw := hide Xy65_
        have HEy65_ := hide ey65_
        clear ey65_ hby65_ Xy65_
        go_upto_region 15 with (fail)
        rw [HEy65_.out]
        obtain ⟨z0, z1, z2, z3, z4, z5, z6, z7, z8, z9, za, zb, zc, zd⟩ := HXz.out.cells
        go_wp2_with fail
        (with_reducible refine (Same_zero va vb vc vd ve vf vg vh vi (.slice V0 0 t0) vs (.slice V1 0 t1) (.slice V2 0 t2) (.slice V3 0 t3) vo vr vp vk _ HZ.out HZQ.out).mono ?_)
        rintro x y66_ ⟨rfl, hb66_⟩
        clear z0 z1 z2 z3 z4 z5 z6 z7 z8 z9 za zb zc zd
        have HE := hide (HE.out.below hb66_)
        have HB := hide (bcall HB.out hb66_)
        have HZ := hide (HZ.out.below hb66_)
        have HXz := hide (HXz.out.below hb66_)
        have HXw := hide (HXw.out.below hb66_)
        clear hb66_
        go_wp2
        go_ret
        exact ⟨rfl, HB.out⟩
end Go.Proofs.YtjnokhaojpijhaaGreatDoor
