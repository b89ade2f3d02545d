import Derived.Test.YtdmbcjckgfjcaaaGreatDoorRbr
import Derived.Test.YtdmbcjckgfjcaaaGreatDoorRbn
import Derived.Test.YtdmbcjckgfjcaaaGreatDoorRbk
/- Layer plan: the program's functions with their answers named. -/
namespace Go.Proofs.YtdmbcjckgfjcaaaGreatDoor
open Go.RowKit Go.Joins Go.Shelf Go.Proofs
section
variable (a b c d e f g h n : Int) (ob : Value) (s : Nat) (rg pg pk : Value) (lo lr : Rws) (lp : List (List Oq)) (lk : List PP) (w : World)
theorem pGreys_c (hs : s < 18446744073709551616) (hg : Grid w rg lr) (hr : Rng lr) (N : Nat) (hN : grF s lr lr.length = N) :
    Calls Tryz.prog 30 #[planV a b c d e f g h n ob s rg pg pk] w fun x w' => x = .returned (.int .u64 (N : Int)) ∧ Below w.heap.size w w' := by
  subst hN; exact pGreys_any a b c d e f g h n ob s rg pg pk lr w hs hg hr
theorem pRight_c (hs : s < 18446744073709551616) (hP : PlanR w ob rg pg pk ⟨a, b, c, d, e, f, g, h, n, lo, s, lr, lp, lk⟩) (r : Bool) (hr : pRight ⟨a, b, c, d, e, f, g, h, n, lo, s, lr, lp, lk⟩ = r) :
    Calls Tryz.prog 52 #[planV a b c d e f g h n ob s rg pg pk] w fun x w' => x = .returned (.bool r) ∧ Below w.heap.size w w' := by
  subst hr; exact pRight_any a b c d e f g h n ob s rg pg pk lo lr lp lk w hs hP
end
theorem pSame_c (a b c d e f g h n : Int) (ob : Value) (s : Nat) (rg pg pk : Value) (lo lr : Rws) (lp : List (List Oq)) (lk : List PP)
    (a' b' c' d' e' f' g' h' n' : Int) (ob' : Value) (s' : Nat) (rg' pg' pk' : Value) (lo' lr' : Rws) (lp' : List (List Oq)) (lk' : List PP) (w : World)
    (hp : PlanR w ob rg pg pk ⟨a, b, c, d, e, f, g, h, n, lo, s, lr, lp, lk⟩) (hq : PlanR w ob' rg' pg' pk' ⟨a', b', c', d', e', f', g', h', n', lo', s', lr', lp', lk'⟩) (r : Bool)
    (hr : decide ((⟨a, b, c, d, e, f, g, h, n, lo, s, lr, lp, lk⟩ : Pq) = ⟨a', b', c', d', e', f', g', h', n', lo', s', lr', lp', lk'⟩) = r) :
    Calls Tryz.prog 81 #[planV a b c d e f g h n ob s rg pg pk, planV a' b' c' d' e' f' g' h' n' ob' s' rg' pg' pk'] w fun x w' => x = .returned (.bool r) ∧ Below w.heap.size w w' :=
  pSame_any a b c d e f g h n ob s rg pg pk _ a' b' c' d' e' f' g' h' n' ob' s' rg' pg' pk' _ w hp hq rfl rfl r hr
end Go.Proofs.YtdmbcjckgfjcaaaGreatDoor
/- Layer plan: the law's own: a plan by bytes. Written by tools/genplanmade.py. -/
namespace Go.Proofs.YtdmbcjckgfjcaaaGreatDoor
open Go.RowKit Go.Shelf Go.Proofs Go.Joins
set_option maxRecDepth 100000 in
set_option maxHeartbeats 16000000 in
theorem made_any (v : Value) (l : List Int) (w : World) (hl : Bytes w v l) (hr : ∀ b ∈ l, 0 ≤ b ∧ b ≤ 255) (q : Pq) (hq : madeG (byteG (l.take 90)) = q) :
    Calls Tryz.prog 9 #[v] w fun e w' => ∃ ob rg pg, e = .returned (planV q.wk q.mu q.cp q.bf q.bn q.mo q.pr q.li q.sl ob q.ro rg pg (.slice none 0 0)) ∧ PlanR w' ob rg pg (.slice none 0 0) q ∧ Below w.heap.size w w' := by
  obtain ⟨A, c, rfl, h1, h2, -⟩ := id hl
  unfold maxLen at h2
  obtain ⟨L, hL⟩ : ∃ L, l.take 90 = L := ⟨_, rfl⟩
  obtain ⟨NL, hNL⟩ : ∃ k : Nat, L.length = k := ⟨_, rfl⟩
  have hNm : NL = min l.length 90 := by rw [← hNL, ← hL, List.length_take, Nat.min_comm]
  have HMN := hide (show (min (l.length : Int) 90).toNat = NL by omega)
  have hle : NL ≤ c := by omega
  have hNll : NL ≤ l.length := by omega
  have htk : l.take NL = l.take 90 := by rw [hNm]; rcases Nat.le_total l.length 90 with h | h; exact (by rw [Nat.min_eq_left h, List.take_of_length_le (Nat.le_refl _), List.take_of_length_le h]); exact (by rw [Nat.min_eq_right h])
  have hby : Bytes w (.slice A NL c) L := by rw [← hL, ← htk]; exact sl_take hl hNll
  have hrL : ∀ b ∈ L, 0 ≤ b ∧ b ≤ 255 := fun b hb => hr b (by rw [← hL] at hb; exact List.mem_of_mem_take hb)
  obtain ⟨G, hG⟩ : ∃ G, byteG L = G := ⟨_, rfl⟩
  have hGr : ∀ i, 0 ≤ G i ∧ G i ≤ 255 := fun i => by rw [← hG]; exact byteG_rng hrL i
  rw [hL, hG] at hq
  obtain ⟨w1, e1, hb1, hs1, X1⟩ := bp_zero w 30
  obtain ⟨w2, e2, hb2, hs2, X2⟩ := b2_new w1 (.slice A NL c) (.int .i64 0) 105
  have hmk : Mk w2 w1.heap.size (.slice A NL c) L 0 := by unfold Mk; simpa using X2
  obtain ⟨M, hM⟩ : ∃ M, w.heap.size + 1 = M := ⟨_, rfl⟩
  have hM1 : w1.heap.size = M := by omega
  have hRM : w.heap.size < M := by omega
  have HBL := hide (bcall hb1 hb2)
  have HX1 := hide (X1.below hb2)
  rw [hM1] at hmk
  have HMK := hide hmk
  have HBY := hide hby
  have HGR := hide hGr
  have HRL := hide hrL
  have HG := hide hG
  have HNE := hide (show 0 < L.length → ∀ x, (Value.slice A NL c).ownBlock = some x → x ≠ M from fun hp x hx => by have := bytes_vb hby hp x hx; omega)
  have HE1 := hide e1
  have HE2 := hide e2
  have HQ := hide hq
  have HM_ := hide hM
  have HS1 := hide hs1
  have HS2 := hide (show M < w2.heap.size by omega)
  have hlL := hide hL
  have hNLL := hide hNL
  clear hl hr hq e1 e2 hb1 hb2 hs1 hs2 X1 X2 hmk hby hrL hG hGr hL hNL hM hM1
  go_enter Tryz.func9, Tryz.ntmps9
  go_upto_region 2 with (fail)
  rw [HE1.out]
  rw [HMN.out, HE2.out, HM_.out]
  obtain ⟨x_0, hx_0⟩ : ∃ x, G (0) = x := ⟨_, rfl⟩
  have hb_0 := HGR.out (0)
  rw [hx_0] at hb_0
  have HX_0 := hide (show byteG L (0) = x_0 by rw [HG.out]; exact hx_0)
  have HXG_0 := hide hx_0
  clear hx_0
  obtain ⟨y0, hy0⟩ : ∃ y, x_0 % 3 = y := ⟨_, rfl⟩
  have hyb0 : 0 ≤ y0 ∧ y0 < 3 := by omega
  have ht0 : x_0.tmod 3 = y0 := by rw [Int.tmod_eq_emod_of_nonneg hb_0.1]; exact hy0
  have HY0 := hide hy0
  clear hy0
  obtain ⟨x_1, hx_1⟩ : ∃ x, G (1) = x := ⟨_, rfl⟩
  have hb_1 := HGR.out (1)
  rw [hx_1] at hb_1
  have HX_1 := hide (show byteG L (1) = x_1 by rw [HG.out]; exact hx_1)
  have HXG_1 := hide hx_1
  clear hx_1
  obtain ⟨y1, hy1⟩ : ∃ y, x_1 % 3 = y := ⟨_, rfl⟩
  have hyb1 : 0 ≤ y1 ∧ y1 < 3 := by omega
  have ht1 : x_1.tmod 3 = y1 := by rw [Int.tmod_eq_emod_of_nonneg hb_1.1]; exact hy1
  have HY1 := hide hy1
  clear hy1
  obtain ⟨x_2, hx_2⟩ : ∃ x, G (2) = x := ⟨_, rfl⟩
  have hb_2 := HGR.out (2)
  rw [hx_2] at hb_2
  have HX_2 := hide (show byteG L (2) = x_2 by rw [HG.out]; exact hx_2)
  have HXG_2 := hide hx_2
  clear hx_2
  obtain ⟨y2, hy2⟩ : ∃ y, x_2 % 3 = y := ⟨_, rfl⟩
  have hyb2 : 0 ≤ y2 ∧ y2 < 3 := by omega
  have ht2 : x_2.tmod 3 = y2 := by rw [Int.tmod_eq_emod_of_nonneg hb_2.1]; exact hy2
  have HY2 := hide hy2
  clear hy2
  obtain ⟨x_3, hx_3⟩ : ∃ x, G (3) = x := ⟨_, rfl⟩
  have hb_3 := HGR.out (3)
  rw [hx_3] at hb_3
  have HX_3 := hide (show byteG L (3) = x_3 by rw [HG.out]; exact hx_3)
  have HXG_3 := hide hx_3
  clear hx_3
  obtain ⟨y3, hy3⟩ : ∃ y, x_3 % 2 = y := ⟨_, rfl⟩
  have hyb3 : 0 ≤ y3 ∧ y3 < 2 := by omega
  have ht3 : x_3.tmod 2 = y3 := by rw [Int.tmod_eq_emod_of_nonneg hb_3.1]; exact hy3
  have HY3 := hide hy3
  clear hy3
  obtain ⟨x_4, hx_4⟩ : ∃ x, G (4) = x := ⟨_, rfl⟩
  have hb_4 := HGR.out (4)
  rw [hx_4] at hb_4
  have HX_4 := hide (show byteG L (4) = x_4 by rw [HG.out]; exact hx_4)
  have HXG_4 := hide hx_4
  clear hx_4
  obtain ⟨y4, hy4⟩ : ∃ y, x_4 % 3 = y := ⟨_, rfl⟩
  have hyb4 : 0 ≤ y4 ∧ y4 < 3 := by omega
  have ht4 : x_4.tmod 3 = y4 := by rw [Int.tmod_eq_emod_of_nonneg hb_4.1]; exact hy4
  have HY4 := hide hy4
  clear hy4
  obtain ⟨x_5, hx_5⟩ : ∃ x, G (5) = x := ⟨_, rfl⟩
  have hb_5 := HGR.out (5)
  rw [hx_5] at hb_5
  have HX_5 := hide (show byteG L (5) = x_5 by rw [HG.out]; exact hx_5)
  have HXG_5 := hide hx_5
  clear hx_5
  obtain ⟨y5, hy5⟩ : ∃ y, x_5 % 4 = y := ⟨_, rfl⟩
  have hyb5 : 0 ≤ y5 ∧ y5 < 4 := by omega
  have ht5 : x_5.tmod 4 = y5 := by rw [Int.tmod_eq_emod_of_nonneg hb_5.1]; exact hy5
  have HY5 := hide hy5
  clear hy5
  obtain ⟨x_6, hx_6⟩ : ∃ x, G (6) = x := ⟨_, rfl⟩
  have hb_6 := HGR.out (6)
  rw [hx_6] at hb_6
  have HX_6 := hide (show byteG L (6) = x_6 by rw [HG.out]; exact hx_6)
  have HXG_6 := hide hx_6
  clear hx_6
  obtain ⟨y6, hy6⟩ : ∃ y, x_6 % 4 = y := ⟨_, rfl⟩
  have hyb6 : 0 ≤ y6 ∧ y6 < 4 := by omega
  have ht6 : x_6.tmod 4 = y6 := by rw [Int.tmod_eq_emod_of_nonneg hb_6.1]; exact hy6
  have HY6 := hide hy6
  clear hy6
  obtain ⟨Mu, rfl⟩ : ∃ Mu : Nat, y1 = (Mu : Int) := ⟨y1.toNat, by omega⟩
  have hM2 := HS2.out
  have hWB : w.heap.size ≤ M := by omega
  go_wp2_with fail
  (with_reducible refine (byte_c M (.slice A NL c) L 0 _ HMK.out (HBY.out.below HBL.out) HRL.out HNE.out x_0 HX_0.out).mono ?_)
  rintro e_ a0 ⟨rfl, hmk, hg⟩
  have HMK0 := hide hmk
  have HX10 := hide (Bk.call (X := w2) (X' := a0) (A := w.heap.size) HX1.out.blk hg (by omega))
  have HBL0 := hide (HBL.out.trans (grown_bel2 hg hWB HBL.out.size))
  have HSZ0 := hide hg.size
  clear hmk hg
  go_wp2_with fail
  (with_reducible refine (byte_c M (.slice A NL c) L 1 _ HMK0.out (HBY.out.below HBL0.out) HRL.out HNE.out x_1 HX_1.out).mono ?_)
  rintro e_ a1 ⟨rfl, hmk, hg⟩
  have HMK1 := hide hmk
  have HX11 := hide (Bk.call (X := a0) (X' := a1) (A := w.heap.size) HX10.out hg (by omega))
  have HBL1 := hide (HBL0.out.trans (grown_bel2 hg hWB HBL0.out.size))
  have HSZ1 := hide hg.size
  clear hmk hg
  go_wp2_with fail
  (with_reducible refine (byte_c M (.slice A NL c) L 2 _ HMK1.out (HBY.out.below HBL1.out) HRL.out HNE.out x_2 HX_2.out).mono ?_)
  rintro e_ a2 ⟨rfl, hmk, hg⟩
  have HMK2 := hide hmk
  have HX12 := hide (Bk.call (X := a1) (X' := a2) (A := w.heap.size) HX11.out hg (by omega))
  have HBL2 := hide (HBL1.out.trans (grown_bel2 hg hWB HBL1.out.size))
  have HSZ2 := hide hg.size
  clear hmk hg
  go_wp2_with fail
  (with_reducible refine (byte_c M (.slice A NL c) L 3 _ HMK2.out (HBY.out.below HBL2.out) HRL.out HNE.out x_3 HX_3.out).mono ?_)
  rintro e_ a3 ⟨rfl, hmk, hg⟩
  have HMK3 := hide hmk
  have HX13 := hide (Bk.call (X := a2) (X' := a3) (A := w.heap.size) HX12.out hg (by omega))
  have HBL3 := hide (HBL2.out.trans (grown_bel2 hg hWB HBL2.out.size))
  have HSZ3 := hide hg.size
  clear hmk hg
  go_wp2_with fail
  (with_reducible refine (byte_c M (.slice A NL c) L 4 _ HMK3.out (HBY.out.below HBL3.out) HRL.out HNE.out x_4 HX_4.out).mono ?_)
  rintro e_ a4 ⟨rfl, hmk, hg⟩
  have HMK4 := hide hmk
  have HX14 := hide (Bk.call (X := a3) (X' := a4) (A := w.heap.size) HX13.out hg (by omega))
  have HBL4 := hide (HBL3.out.trans (grown_bel2 hg hWB HBL3.out.size))
  have HSZ4 := hide hg.size
  clear hmk hg
  go_wp2_with fail
  (with_reducible refine (byte_c M (.slice A NL c) L 5 _ HMK4.out (HBY.out.below HBL4.out) HRL.out HNE.out x_5 HX_5.out).mono ?_)
  rintro e_ a5 ⟨rfl, hmk, hg⟩
  have HMK5 := hide hmk
  have HX15 := hide (Bk.call (X := a4) (X' := a5) (A := w.heap.size) HX14.out hg (by omega))
  have HBL5 := hide (HBL4.out.trans (grown_bel2 hg hWB HBL4.out.size))
  have HSZ5 := hide hg.size
  clear hmk hg
  go_wp2_with fail
  (with_reducible refine (byte_c M (.slice A NL c) L 6 _ HMK5.out (HBY.out.below HBL5.out) HRL.out HNE.out x_6 HX_6.out).mono ?_)
  rintro e_ a6 ⟨rfl, hmk, hg⟩
  have HMK6 := hide hmk
  have HX16 := hide (Bk.call (X := a5) (X' := a6) (A := w.heap.size) HX15.out hg (by omega))
  have HBL6 := hide (HBL5.out.trans (grown_bel2 hg hWB HBL5.out.size))
  have HSZ6 := hide hg.size
  clear hmk hg
  obtain ⟨w3, e3, hb3, hs3, X3⟩ := bp_new0 a6 (1 + y0) (Mu : Int) (1 + y2) (1 + y3) (1 + y4) 0 y5 y6 0 (.slice none 0 0) (.slice none 0 0) (.slice none 0 0) (.slice none 0 0) 30
  have HE3 := hide e3
  clear e3
  go_upto_region 3 with (fail)
  rw [HE3.out]
  obtain ⟨B, hB⟩ : ∃ B, a6.heap.size = B := ⟨_, rfl⟩
  have hMB : M < B := by have h0 := HSZ0.out; have h1 := HSZ1.out; have h2 := HSZ2.out; have h3 := HSZ3.out; have h4 := HSZ4.out; have h5 := HSZ5.out; have h6 := HSZ6.out; omega
  rw [hB] at X3 ⊢
  have HLT := hide (show Mlt w w.heap.size M B from ⟨Nat.le_refl _, by omega, hWB, by omega, hMB⟩)
  have HMS := hide (show Mst w w.heap.size M B (.slice A NL c) L 7 w3 (1 + y0) (Mu : Int) (1 + y2) (1 + y3) (1 + y4) 0 y5 y6 0 (.slice none 0 0) 0 (.slice none 0 0) (.slice none 0 0) from ⟨bcall HBL6.out hb3, HMK6.out.below hb3, X3, Bp.below ⟨HX16.out⟩ hb3⟩)
  clear hb_0 HX_0 ht0 HMK0 HX10 HBL0 HSZ0 hb_1 HX_1 ht1 HMK1 HX11 HBL1 HSZ1 hb_2 HX_2 ht2 HMK2 HX12 HBL2 HSZ2 hb_3 HX_3 ht3 HMK3 HX13 HBL3 HSZ3 hb_4 HX_4 ht4 HMK4 HX14 HBL4 HSZ4 hb_5 HX_5 ht5 HMK5 HX15 HBL5 HSZ5 hb_6 HX_6 ht6 HMK6 HX16 HBL6 HSZ6 hb3 hs3 X3 HE3 hB hM2 HMK HBL HX1 HE1 HE2 HS1 HS2 HM_ HMN
  have hwB : w.heap.size < B := by omega
  clear hyb0 hyb2 hyb3 hyb4 hyb5 hyb6
  obtain ⟨c0, c1_, c2, c3, c4, c5, c6, c7, c8, c9, ca, cb, cc, cd⟩ := HMS.out.bp.cells
  obtain ⟨Sn, hSn, hSn1, hSn2⟩ : ∃ Sn : Nat, 1 + G 7 % 2 = (Sn : Int) ∧ 1 ≤ Sn ∧ Sn ≤ 2 := ⟨(1 + G 7 % 2).toNat, by omega, by omega, by omega⟩
  obtain ⟨x_7, hx_7⟩ : ∃ x, G (7) = x := ⟨_, rfl⟩
  have hb_7 := HGR.out (7)
  rw [hx_7] at hb_7
  have HX_7 := hide (show byteG L (7) = x_7 by rw [HG.out]; exact hx_7)
  have HXG_7 := hide hx_7
  clear hx_7
  obtain ⟨y_7, hy_7⟩ : ∃ y, x_7 % 2 = y := ⟨_, rfl⟩
  have hyb_7 : 0 ≤ y_7 ∧ y_7 < 2 := by have h1 := Int.emod_nonneg x_7 (show (2 : Int) ≠ 0 by omega); have h2 := Int.emod_lt_of_pos x_7 (show (0 : Int) < 2 by omega); omega
  have ht_7 : x_7.tmod 2 = y_7 := by rw [Int.tmod_eq_emod_of_nonneg hb_7.1]; exact hy_7
  have HY_7 := hide hy_7
  clear hy_7
  go_wp2_with fail
  (with_reducible refine (byte_c M (.slice A NL c) L (7) _ HMS.out.mk_ (HBY.out.below HMS.out.bl) HRL.out HNE.out x_7 HX_7.out).mono ?_)
  rintro e_ a7 ⟨rfl, hmk, hg⟩
  have HMS := hide (HMS.out.call HLT.out hmk hg)
  clear c0 c1_ c2 c3 c4 c5 c6 c7 c8 c9 ca cb cc cd
  clear hmk hg HX_7
  have hS7 : 1 + y_7 = (Sn : Int) := by rw [← hSn, HXG_7.out, HY_7.out]
  have HSN := hide hSn
  clear hSn
  obtain ⟨c0, c1_, c2, c3, c4, c5, c6, c7, c8, c9, ca, cb, cc, cd⟩ := HMS.out.bp.cells
  have f8 := HMS.out.bp.cellsF 8
  obtain ⟨w4, e4, hm4⟩ : ∃ Z, a7.setCell ⟨B, 8, none⟩ (.int .i64 (Sn : Int)) = Z ∧ Mst w w.heap.size M B (.slice A NL c) L (7 + 1) Z (1 + y0) (Mu : Int) (1 + y2) (1 + y3) (1 + y4) 0 y5 y6 (Sn : Int) (.slice none 0 0) 0 (.slice none 0 0) (.slice none 0 0) := ⟨_, rfl, HMS.out.set HLT.out 8 _ rfl⟩
  have HE4 := hide e4
  have HMS := hide hm4
  clear e4 hm4
  go_upto_region 4 with (fail)
  rw [HE4.out]
  clear c0 c1_ c2 c3 c4 c5 c6 c7 c8 c9 ca cb cc cd
  clear f8 HE4 hb_7 ht_7 hyb_7 hS7 HXG_7 HY_7
  obtain ⟨N, hN, hN1, hN2⟩ : ∃ N : Nat, 1 + G 8 % 6 = (N : Int) ∧ 1 ≤ N ∧ N ≤ 6 := ⟨(1 + G 8 % 6).toNat, by omega, by omega, by omega⟩
  obtain ⟨x_8, hx_8⟩ : ∃ x, G (7 + 1) = x := ⟨_, rfl⟩
  have hb_8 := HGR.out (7 + 1)
  rw [hx_8] at hb_8
  have HX_8 := hide (show byteG L (7 + 1) = x_8 by rw [HG.out]; exact hx_8)
  have HXG_8 := hide hx_8
  clear hx_8
  obtain ⟨y_8, hy_8⟩ : ∃ y, x_8 % 6 = y := ⟨_, rfl⟩
  have hyb_8 : 0 ≤ y_8 ∧ y_8 < 6 := by have h1 := Int.emod_nonneg x_8 (show (6 : Int) ≠ 0 by omega); have h2 := Int.emod_lt_of_pos x_8 (show (0 : Int) < 6 by omega); omega
  have ht_8 : x_8.tmod 6 = y_8 := by rw [Int.tmod_eq_emod_of_nonneg hb_8.1]; exact hy_8
  have HY_8 := hide hy_8
  clear hy_8
  go_wp2_with fail
  (with_reducible refine (byte_c M (.slice A NL c) L (7 + 1) _ HMS.out.mk_ (HBY.out.below HMS.out.bl) HRL.out HNE.out x_8 HX_8.out).mono ?_)
  rintro e_ a8 ⟨rfl, hmk, hg⟩
  have HMS := hide (HMS.out.call HLT.out hmk hg)
  clear hmk hg HX_8
  have hS8 : 1 + y_8 = (N : Int) := by rw [← hN, ← HY_8.out, ← HXG_8.out]
  have HNN := hide hN
  clear hN
  go_upto_region 5 with (fail)
  clear hb_8 ht_8 hyb_8 hS8 HXG_8 HY_8
  obtain ⟨x_9, hx_9⟩ : ∃ x, G (7 + 1 + 1) = x := ⟨_, rfl⟩
  have hb_9 := HGR.out (7 + 1 + 1)
  rw [hx_9] at hb_9
  have HX_9 := hide (show byteG L (7 + 1 + 1) = x_9 by rw [HG.out]; exact hx_9)
  have HXG_9 := hide hx_9
  clear hx_9
  obtain ⟨y_9, hy_9⟩ : ∃ y, x_9 % 4 = y := ⟨_, rfl⟩
  have hyb_9 : 0 ≤ y_9 ∧ y_9 < 4 := by have h1 := Int.emod_nonneg x_9 (show (4 : Int) ≠ 0 by omega); have h2 := Int.emod_lt_of_pos x_9 (show (0 : Int) < 4 by omega); omega
  have ht_9 : x_9.tmod 4 = y_9 := by rw [Int.tmod_eq_emod_of_nonneg hb_9.1]; exact hy_9
  have HY_9 := hide hy_9
  clear hy_9
  go_wp2_with fail
  (with_reducible refine (byte_c M (.slice A NL c) L (7 + 1 + 1) _ HMS.out.mk_ (HBY.out.below HMS.out.bl) HRL.out HNE.out x_9 HX_9.out).mono ?_)
  rintro e_ a9 ⟨rfl, hmk, hg⟩
  have HMS := hide (HMS.out.call HLT.out hmk hg)
  clear hmk hg HX_9
  obtain ⟨c0, c1_, c2, c3, c4, c5, c6, c7, c8, c9, ca, cb, cc, cd⟩ := HMS.out.bp.cells
  have f5 := HMS.out.bp.cellsF 5
  obtain ⟨w5, e5, hm5⟩ : ∃ Z, a9.setCell ⟨B, 5, none⟩ (.int .i64 ((N : Int) + y_9)) = Z ∧ Mst w w.heap.size M B (.slice A NL c) L (7 + 1 + 1 + 1) Z (1 + y0) (Mu : Int) (1 + y2) (1 + y3) (1 + y4) ((N : Int) + y_9) y5 y6 (Sn : Int) (.slice none 0 0) 0 (.slice none 0 0) (.slice none 0 0) := ⟨_, rfl, HMS.out.set HLT.out 5 _ rfl⟩
  have HE5 := hide e5
  have HMS := hide (hm5.at_ (show 7 + 1 + 1 + 1 = 10 + 0 * Sn by omega))
  clear e5 hm5
  go_upto_region 6 with (fail)
  rw [HE5.out]
  clear c0 c1_ c2 c3 c4 c5 c6 c7 c8 c9 ca cb cc cd
  clear f5 HE5 hb_9 ht_9 hyb_9
  obtain ⟨i0, hi, hz0, hz1, hz2⟩ := info_parts infoInt
  obtain ⟨j0, hj, jz0, jz1, jz2⟩ := info_parts infoRw
  obtain ⟨k0, hk, kz0, kz1, kz2⟩ := info_parts infoRo
  obtain ⟨p0, hp, pz0, pz1, pz2⟩ := info_parts infoOqR
  go_wp2
  go_loopw [6, 7, 8] (fun iv _ _ wr => ∃ (k : Nat) (A1 : Option Addr) (c1 : Nat), k ≤ N ∧ iv = .int .i64 k ∧ k ≤ c1 ∧ c1 ≤ 9223372036854775807 ∧ Hid (Mst w w.heap.size M B (.slice A NL c) L (10 + k * Sn) wr (1 + y0) (Mu : Int) (1 + y2) (1 + y3) (1 + y4) ((N : Int) + y_9) y5 y6 (Sn : Int) (.slice A1 k c1) 0 (.slice none 0 0) (.slice none 0 0)) ∧ Hid (OwnR (B + 1) wr (.slice A1 k c1) (objsG G N Sn k 10))) (fun iv _ _ _ => N - (intOf iv).toNat)
  case atStart => exact ⟨0, none, 0, by omega, rfl, by omega, by omega, HMS, hide OwnRows.nil_⟩
  case round =>
    clear HMS
    obtain ⟨k, A1, c1, hkN, rfl, hkc, hc1, HMS, HOB⟩ := hrel
    obtain ⟨wo, rfl⟩ : ∃ W, W = wr := ⟨_, rfl⟩
    by_cases hlt : k < N
    · have HSO := hide (objsG_snoc G N Sn k 10)
      have HKS := hide HMS.out.bp.lt
      go_wp2
      go_loopw [7, 8] (fun ov kv wq => ∃ j : Nat, j ≤ Sn ∧ kv = .int .i64 j ∧ Hid (Mst w w.heap.size M B (.slice A NL c) L (10 + k * Sn + j) wq (1 + y0) (Mu : Int) (1 + y2) (1 + y3) (1 + y4) ((N : Int) + y_9) y5 y6 (Sn : Int) (.slice A1 k c1) 0 (.slice none 0 0) (.slice none 0 0)) ∧ Hid (KB B wo wq) ∧ Hid (wq.ownsRow wo.heap.size 3 1 ov j ((objG G N j (10 + k * Sn)).flatMap ic))) (fun _ kv _ => Sn - (intOf kv).toNat)
      case atStart => exact ⟨0, by omega, rfl, HMS, hide (KB.refl _ _), hide (World.ownsRow_nil _ _ _ _)⟩
      case round =>
        clear HMS
        obtain ⟨j, hjS, rfl, HMS, HKB, HOW⟩ := hrel
        obtain ⟨c0, c1_, c2, c3, c4, c5, c6, c7, c8, c9, ca, cb, cc, cd⟩ := HMS.out.bp.cells
        obtain ⟨Ao, co, rfl, hco1, hco2⟩ := own_form HOW.out
        unfold maxLen at hco2
        by_cases hjl : j < Sn
        · have HSN1 := hide (objG_snoc G N j (10 + k * Sn))
          have zn : ((N : Int) + 1 == 0) = false := by simp; omega
          have nn : ¬ (N : Int) + 1 = 0 := by omega
          obtain ⟨x_b, hx_b⟩ : ∃ x, G (10 + k * Sn + j) = x := ⟨_, rfl⟩
          have hb_b := HGR.out (10 + k * Sn + j)
          rw [hx_b] at hb_b
          have HX_b := hide (show byteG L (10 + k * Sn + j) = x_b by rw [HG.out]; exact hx_b)
          have HXG_b := hide hx_b
          clear hx_b
          obtain ⟨y_b, hy_b⟩ : ∃ y, x_b % ((N : Int) + 1) = y := ⟨_, rfl⟩
          have hyb_b : 0 ≤ y_b ∧ y_b < ((N : Int) + 1) := by have h1 := Int.emod_nonneg x_b (show (((N : Int) + 1) : Int) ≠ 0 by omega); have h2 := Int.emod_lt_of_pos x_b (show (0 : Int) < ((N : Int) + 1) by omega); omega
          have ht_b : x_b.tmod ((N : Int) + 1) = y_b := by rw [Int.tmod_eq_emod_of_nonneg hb_b.1]; exact hy_b
          have HY_b := hide hy_b
          clear hy_b
          go_wp2_with fail
          (with_reducible refine (byte_c M (.slice A NL c) L (10 + k * Sn + j) _ HMS.out.mk_ (HBY.out.below HMS.out.bl) HRL.out HNE.out x_b HX_b.out).mono ?_)
          rintro e_ wb ⟨rfl, hmk, hg⟩
          have HMS := hide (HMS.out.call HLT.out hmk hg)
          clear c0 c1_ c2 c3 c4 c5 c6 c7 c8 c9 ca cb cc cd
          clear HX_b hb_b hyb_b
          have HKB := hide (HKB.out.call hg HLT.out.hMB)
          have HOW := hide (own_kb HOW.out (KB.call (KB.refl B _) hg HLT.out.hMB) (by have := HKS.out; omega))
          have HFM := hide (show (objG G N (j + 1) (10 + k * Sn)).flatMap ic = (objG G N j (10 + k * Sn)).flatMap ic ++ [.int .i64 y_b] by rw [HSN1.out, List.flatMap_append, HXG_b.out, HY_b.out]; rfl)
          have HKZ := hide HKB.out.size
          clear hmk hg
          go_wp2_with (at_builtin; refine wpList_append_own _ rfl _ _ 47 rfl wo.heap.size 3 i0 (.int .i64 0) 1 8 Tryz.underlying47 hi hz0 hz1 hz2 rfl (by decide) _ _ _ rfl (HOW.out.alloc _) ⟨_, 0, none⟩ 1 1 [.int .i64 y_b] rfl rfl (row_at _ _ _ (by simp)) (by simp [Value.oneCell']) (by simp only [maxLen]; omega) (by omega) (by have := HKZ.out; simp; omega) ?_; intro v' w6 hown' hgrow _)
          go_roundw
          case rel => exact ⟨j + 1, by omega, by go_num, hide (Mst.app (HMS.out.below (balHp _ _)) HLT.out hgrow (fun x hx => by have h1 := own_ge HOW.out x hx; have := HKS.out; omega)), hide ((HKB.out.below (balHp _ _)).app hgrow (own_ge HOW.out)), hide (by rw [HFM.out]; exact hown')⟩
          case measure => simp [intOf]; omega
        · have hjE : Sn = j := by omega
          clear hjl hjS
          obtain rfl := hjE
          have HOB2 := hide (rows_kb HOB.out HKB.out (by omega))
          obtain ⟨vs, htop, hlen, hrows⟩ := HOB2.out
          have hvk : vs.length = k := by rw [hlen, (objsG_ok G (by omega) Sn k 10).2]
          rw [hvk] at htop
          have HT := hide htop
          have HLN := hide hlen
          have HRW := hide hrows
          have HVK := hide hvk
          have HKZ := hide HMS.out.bp.lt
          clear htop hlen hrows hvk
          go_wp2_with (at_builtin; refine wpList_append_own _ rfl _ _ 22 rfl (B + 1) 47 j0 (.slice none 0 0) 1 24 Tryz.underlying22 hj jz0 jz1 jz2 rfl (by decide) _ _ _ rfl (HT.out.alloc _) ⟨_, 0, none⟩ 1 1 [.slice Ao Sn co] rfl rfl (row_at _ _ _ (by simp)) (by simp [Value.oneCell']) (by simp only [maxLen]; omega) (by omega) (by have := HKZ.out; simp; omega) ?_; intro v' w7 hown' hgrow _; obtain ⟨gz, cz, rfl⟩ := ownsRow_succ hown'; have HM7 := hide (Mst.app (HMS.out.below (balHp _ _)) HLT.out hgrow (fun x hx => by have h1 := own_ge HT.out x hx; omega)); have HOWN := hide hown'; have HGROW := hide hgrow; clear hown' hgrow; clear c0 c1_ c2 c3 c4 c5 c6 c7 c8 c9 ca cb cc cd; obtain ⟨c0, c1_, c2, c3, c4, c5, c6, c7, c8, c9, ca, cb, cc, cd⟩ := HM7.out.bp.cells; have f9 := HM7.out.bp.cellsF 9)
          go_roundw
          case rel =>
            obtain ⟨Aq, cq, hq1, hq2, hq3⟩ := own_form HOWN.out
            injection hq1 with hqa hqb hqc
            subst hqc
            unfold maxLen at hq3
            have hL := objG_len G N Sn (10 + k * Sn)
            have hx := OwnRows.snoc (T := 47) (by decide) HLN.out (own_below (by rw [HVK.out]; exact HT.out) (balHp _ _)) (fun i u l hu hl => own_below (HRW.out i u l hu hl) (balHp _ _)) (l := objG G N Sn (10 + k * Sn)) (own_base (own_below (by rw [hL]; exact HOW.out) (balHp _ _)) (by have := HKS.out; omega)) (by rw [HVK.out]; exact HOWN.out) HGROW.out
            exact ⟨k + 1, _, cz, by omega, by go_num, hq2, by omega, hide (Mst.at_ (HM7.out.set HLT.out 9 _ rfl) (by rw [Nat.add_mul]; omega)), hide (by rw [HSO.out]; exact OwnRows.setCell_below hx (by show B < B + 1; omega) _)⟩
          case measure => simp [intOf]; omega
    · have hkE : N = k := by omega
      clear hlt hkN
      obtain rfl := hkE
      have zn : ((N : Int) + 1 == 0) = false := by simp; omega
      have nn : ¬ (N : Int) + 1 = 0 := by omega
      obtain ⟨c0, c1_, c2, c3, c4, c5, c6, c7, c8, c9, ca, cb, cc, cd⟩ := HMS.out.bp.cells
      obtain ⟨x_r, hx_r⟩ : ∃ x, G (10 + N * Sn) = x := ⟨_, rfl⟩
      have hb_r := HGR.out (10 + N * Sn)
      rw [hx_r] at hb_r
      have HX_r := hide (show byteG L (10 + N * Sn) = x_r by rw [HG.out]; exact hx_r)
      have HXG_r := hide hx_r
      clear hx_r
      obtain ⟨y_r, hy_r⟩ : ∃ y, x_r % ((N : Int) + 1) = y := ⟨_, rfl⟩
      have hyb_r : 0 ≤ y_r ∧ y_r < ((N : Int) + 1) := by have h1 := Int.emod_nonneg x_r (show (((N : Int) + 1) : Int) ≠ 0 by omega); have h2 := Int.emod_lt_of_pos x_r (show (0 : Int) < ((N : Int) + 1) by omega); omega
      have ht_r : x_r.tmod ((N : Int) + 1) = y_r := by rw [Int.tmod_eq_emod_of_nonneg hb_r.1]; exact hy_r
      have HY_r := hide hy_r
      clear hy_r
      go_wp2_with fail
      (with_reducible refine (byte_c M (.slice A NL c) L (10 + N * Sn) _ HMS.out.mk_ (HBY.out.below HMS.out.bl) HRL.out HNE.out x_r HX_r.out).mono ?_)
      rintro e_ wc ⟨rfl, hmk, hg⟩
      have HMS := hide (HMS.out.call HLT.out hmk hg)
      clear c0 c1_ c2 c3 c4 c5 c6 c7 c8 c9 ca cb cc cd
      have HKR := hide (KB.call (KB.refl B wo) hg HLT.out.hMB)
      have HOB := hide (rows_kb HOB.out HKR.out (by omega))
      clear hmk hg HX_r HKR
      obtain ⟨s1, hs1⟩ : ∃ s, addF 0 y_r = s := ⟨_, rfl⟩
      have HS1 := hide hs1
      clear hs1
      go_wp2_with fail
      (with_reducible refine (Add_zero y_r _ (by omega) (by omega) s1 HS1.out).mono ?_)
      rintro e_ w8 ⟨rfl, hw⟩
      obtain rfl := hw.symm
      obtain ⟨c0, c1_, c2, c3, c4, c5, c6, c7, c8, c9, ca, cb, cc, cd⟩ := HMS.out.bp.cells
      have f10 := HMS.out.bp.cellsF 10
      obtain ⟨w9, e9, hm9⟩ : ∃ Z, wc.setCell ⟨B, 10, none⟩ (.int .u64 (s1 : Int)) = Z ∧ Mst w w.heap.size M B (.slice A NL c) L (10 + N * Sn + 1) Z (1 + y0) (Mu : Int) (1 + y2) (1 + y3) (1 + y4) ((N : Int) + y_9) y5 y6 (Sn : Int) (.slice A1 N c1) s1 (.slice none 0 0) (.slice none 0 0) := ⟨_, rfl, HMS.out.set HLT.out 10 _ rfl⟩
      have HE9 := hide e9
      have HMS := hide hm9
      have HOB := hide (show OwnR (B + 1) w9 (.slice A1 N c1) (objsG G N Sn N 10) by rw [← e9]; exact OwnRows.setCell_below HOB.out (by show B < B + 1; omega) _)
      clear e9 hm9
      go_upto_region 16 with (fail)
      rw [HE9.out]
      clear c0 c1_ c2 c3 c4 c5 c6 c7 c8 c9 ca cb cc cd
      clear f10 HE9 hb_r ht_r hyb_r zn nn
      have HWB := hide HMS.out.bp.lt
      obtain ⟨I0, hI0⟩ : ∃ i, 10 + N * Sn + 1 = i := ⟨_, rfl⟩
      rw [hI0] at HMS
      have HI0 := hide hI0
      clear hI0
      go_wp2
      go_loopw [9, 10, 11, 12, 13] (fun iv _ _ _ _ wr => ∃ (k : Nat) (A2 : Option Addr) (m2 : Nat) (A3 : Option Addr) (m3 : Nat) (p : Nat), k ≤ Mu ∧ iv = .int .i64 k ∧ k ≤ m2 ∧ m2 ≤ 9223372036854775807 ∧ k ≤ m3 ∧ m3 ≤ 9223372036854775807 ∧ Hid ((mutsG G N Sn k I0).2 = p) ∧ Hid (Mst w w.heap.size M B (.slice A NL c) L p wr (1 + y0) (Mu : Int) (1 + y2) (1 + y3) (1 + y4) ((N : Int) + y_9) y5 y6 (Sn : Int) (.slice A1 N c1) s1 (.slice A2 k m2) (.slice A3 k m3)) ∧ Hid (KB B w9 wr) ∧ Hid (OwnR w9.heap.size wr (.slice A2 k m2) ((mutsG G N Sn k I0).1.map (·.1))) ∧ Hid (OwnO w9.heap.size wr (.slice A3 k m3) ((mutsG G N Sn k I0).1.map (·.2)))) (fun iv _ _ _ _ _ => Mu - (intOf iv).toNat)
      case atStart => exact ⟨0, none, 0, none, 0, I0, by omega, rfl, by omega, by omega, by omega, by omega, hide rfl, HMS, hide (KB.refl _ _), hide OwnRows.nil_, hide (OwnO.nil_ _ _)⟩
      case round =>
        clear HMS
        obtain ⟨k, A2, m2, A3, m3, p, hkM, rfl, hk2, hkc2, hk3, hkc3, HP, HMS, HK9, HRG, HPG⟩ := hrel
        obtain ⟨wo, rfl⟩ : ∃ W, W = wr := ⟨_, rfl⟩
        have HKS := hide HMS.out.bp.lt
        obtain ⟨c0, c1_, c2, c3, c4, c5, c6, c7, c8, c9, ca, cb, cc, cd⟩ := HMS.out.bp.cells
        by_cases hlt : k < Mu
        · have HSO := hide (mutsG_snoc G N Sn k I0)
          go_wp2
          clear c0 c1_ c2 c3 c4 c5 c6 c7 c8 c9 ca cb cc cd
          go_loopw [10, 11] (fun rv kv wq => ∃ (r : List Int) (i nr : Nat), kv = .int .i64 nr ∧ nr ≤ 3 ∧ Hid (r.length = nr) ∧ Hid (RegInv G N p r i) ∧ Hid (Mst w w.heap.size M B (.slice A NL c) L i wq (1 + y0) (Mu : Int) (1 + y2) (1 + y3) (1 + y4) ((N : Int) + y_9) y5 y6 (Sn : Int) (.slice A1 N c1) s1 (.slice A2 k m2) (.slice A3 k m3)) ∧ Hid (KB B wo wq) ∧ Hid (wq.ownsRow wo.heap.size 3 1 rv nr (r.flatMap ic))) (fun _ kv _ => 4 - (intOf kv).toNat)
          case atStart => exact ⟨[], p, 0, rfl, by omega, hide rfl, hide (RegInv.start _ _ _), HMS, hide (KB.refl _ _), hide (World.ownsRow_nil _ _ _ _)⟩
          case round =>
            clear HMS
            obtain ⟨r, i, nr, rfl, hnr, HRN, HRI, HMS, HKB, HOW⟩ := hrel
            obtain ⟨Ao, co, rfl, hco1, hco2⟩ := own_form HOW.out
            unfold maxLen at hco2
            obtain ⟨c0, c1_, c2, c3, c4, c5, c6, c7, c8, c9, ca, cb, cc, cd⟩ := HMS.out.bp.cells
            have hb3 := RegInv.len HRI.out
            rw [HRN.out] at hb3
            have zn : ((N : Int) + 1 == 0) = false := by simp; omega
            have nn : ¬ (N : Int) + 1 = 0 := by omega
            obtain ⟨x_c, hx_c⟩ : ∃ x, G (i) = x := ⟨_, rfl⟩
            have hb_c := HGR.out (i)
            rw [hx_c] at hb_c
            have HX_c := hide (show byteG L (i) = x_c by rw [HG.out]; exact hx_c)
            have HXG_c := hide hx_c
            clear hx_c
            obtain ⟨y_c, hy_c⟩ : ∃ y, x_c % 3 = y := ⟨_, rfl⟩
            have hyb_c : 0 ≤ y_c ∧ y_c < 3 := by have h1 := Int.emod_nonneg x_c (show (3 : Int) ≠ 0 by omega); have h2 := Int.emod_lt_of_pos x_c (show (0 : Int) < 3 by omega); omega
            have ht_c : x_c.tmod 3 = y_c := by rw [Int.tmod_eq_emod_of_nonneg hb_c.1]; exact hy_c
            have HY_c := hide hy_c
            clear hy_c
            go_wp2_with fail
            (with_reducible refine (byte_c M (.slice A NL c) L (i) _ HMS.out.mk_ (HBY.out.below HMS.out.bl) HRL.out HNE.out x_c HX_c.out).mono ?_)
            rintro e_ wb ⟨rfl, hmk, hg⟩
            have HMS := hide (HMS.out.call HLT.out hmk hg)
            clear c0 c1_ c2 c3 c4 c5 c6 c7 c8 c9 ca cb cc cd
            have HKB := hide (HKB.out.call hg HLT.out.hMB)
            have HOW := hide (own_kb HOW.out (KB.call (KB.refl B _) hg HLT.out.hMB) (by have := HKS.out; omega))
            clear hmk hg HX_c
            obtain ⟨c0, c1_, c2, c3, c4, c5, c6, c7, c8, c9, ca, cb, cc, cd⟩ := HMS.out.bp.cells
            by_cases hc : (nr : Int) < 1 + y_c
            · have HRI2 := hide (RegInv.step HRI.out (by rw [HRN.out, HXG_c.out, HY_c.out]; exact hc))
              obtain ⟨x_d, hx_d⟩ : ∃ x, G (i + 1) = x := ⟨_, rfl⟩
              have hb_d := HGR.out (i + 1)
              rw [hx_d] at hb_d
              have HX_d := hide (show byteG L (i + 1) = x_d by rw [HG.out]; exact hx_d)
              have HXG_d := hide hx_d
              clear hx_d
              obtain ⟨y_d, hy_d⟩ : ∃ y, x_d % ((N : Int) + 1) = y := ⟨_, rfl⟩
              have hyb_d : 0 ≤ y_d ∧ y_d < ((N : Int) + 1) := by have h1 := Int.emod_nonneg x_d (show (((N : Int) + 1) : Int) ≠ 0 by omega); have h2 := Int.emod_lt_of_pos x_d (show (0 : Int) < ((N : Int) + 1) by omega); omega
              have ht_d : x_d.tmod ((N : Int) + 1) = y_d := by rw [Int.tmod_eq_emod_of_nonneg hb_d.1]; exact hy_d
              have HY_d := hide hy_d
              clear hy_d
              go_wp2_with fail
              (with_reducible refine (byte_c M (.slice A NL c) L (i + 1) _ HMS.out.mk_ (HBY.out.below HMS.out.bl) HRL.out HNE.out x_d HX_d.out).mono ?_)
              rintro e_ wd ⟨rfl, hmk, hg⟩
              have HMS := hide (HMS.out.call HLT.out hmk hg)
              clear c0 c1_ c2 c3 c4 c5 c6 c7 c8 c9 ca cb cc cd
              have HKB := hide (HKB.out.call hg HLT.out.hMB)
              have HOW := hide (own_kb HOW.out (KB.call (KB.refl B _) hg HLT.out.hMB) (by have := HKS.out; omega))
              have HFM := hide (show (r ++ [G (i + 1) % ((N : Int) + 1)]).flatMap ic = r.flatMap ic ++ [.int .i64 y_d] by rw [List.flatMap_append, HXG_d.out, HY_d.out]; rfl)
              have HKZ := hide HKB.out.size
              clear hmk hg HX_d hb_d hyb_d hb_c hyb_c
              go_wp2_with (at_builtin; refine wpList_append_own _ rfl _ _ 47 rfl wo.heap.size 3 i0 (.int .i64 0) 1 8 Tryz.underlying47 hi hz0 hz1 hz2 rfl (by decide) _ _ _ rfl (HOW.out.alloc _) ⟨_, 0, none⟩ 1 1 [.int .i64 y_d] rfl rfl (row_at _ _ _ (by simp)) (by simp [Value.oneCell']) (by simp only [maxLen]; omega) (by omega) (by have := HKZ.out; simp; omega) ?_; intro v' w6 hown' hgrow _)
              go_roundw
              case rel => exact ⟨r ++ [G (i + 1) % ((N : Int) + 1)], i + 1 + 1, nr + 1, by go_num, by have h := HRI2.out.len; rw [List.length_append, HRN.out] at h; simpa using h, hide (by rw [List.length_append, HRN.out]; rfl), HRI2, hide (Mst.app (HMS.out.below (balHp _ _)) HLT.out hgrow (fun x hx => by have h1 := own_ge HOW.out x hx; have := HKS.out; omega)), hide ((HKB.out.below (balHp _ _)).app hgrow (own_ge HOW.out)), hide (by rw [HFM.out]; exact hown')⟩
              case measure => simp [intOf]; omega
            · have HRS := hide (RegInv.stop HRI.out (by rw [HRN.out, HXG_c.out, HY_c.out]; exact hc))
              have hnr1 : 1 ≤ nr := by omega
              have zr : ((nr : Int) == 0) = false := by simp; omega
              have nz : ¬ nr = 0 := by omega
              have hcd : decide ((nr : Int) < 1 + y_c) = false := decide_eq_false hc
              clear HRI HXG_c HY_c hb3
              go_upto_region 27 with (fail)
              obtain ⟨x_e, hx_e⟩ : ∃ x, G (i + 1) = x := ⟨_, rfl⟩
              have hb_e := HGR.out (i + 1)
              rw [hx_e] at hb_e
              have HX_e := hide (show byteG L (i + 1) = x_e by rw [HG.out]; exact hx_e)
              have HXG_e := hide hx_e
              clear hx_e
              obtain ⟨y_e, hy_e⟩ : ∃ y, x_e % 8 = y := ⟨_, rfl⟩
              have hyb_e : 0 ≤ y_e ∧ y_e < 8 := by have h1 := Int.emod_nonneg x_e (show (8 : Int) ≠ 0 by omega); have h2 := Int.emod_lt_of_pos x_e (show (0 : Int) < 8 by omega); omega
              have ht_e : x_e.tmod 8 = y_e := by rw [Int.tmod_eq_emod_of_nonneg hb_e.1]; exact hy_e
              have HY_e := hide hy_e
              clear hy_e
              go_wp2_with fail
              (with_reducible refine (byte_c M (.slice A NL c) L (i + 1) _ HMS.out.mk_ (HBY.out.below HMS.out.bl) HRL.out HNE.out x_e HX_e.out).mono ?_)
              rintro e_ we ⟨rfl, hmk, hg⟩
              have HMS := hide (HMS.out.call HLT.out hmk hg)
              have HKB := hide (HKB.out.call hg HLT.out.hMB)
              have HOW := hide (own_kb HOW.out (KB.call (KB.refl B _) hg HLT.out.hMB) (by have := HKS.out; omega))
              clear c0 c1_ c2 c3 c4 c5 c6 c7 c8 c9 ca cb cc cd
              clear hmk hg HX_e
              obtain ⟨K, hK⟩ : ∃ K : Nat, y_e = (K : Int) := ⟨y_e.toNat, by omega⟩
              have hK8 : K ≤ 7 := by omega
              have HKK := hide (show (G (i + 1) % 8).toNat = K by rw [HXG_e.out, HY_e.out, hK]; rfl)
              subst hK
              have HWE := hide HMS.out.bp.lt
              go_wp2
              skip
              go_loopw [12, 13] (fun ov kv wq => ∃ (acc : List Oq) (kk i2 na : Nat), kv = .int .i64 kk ∧ kk ≤ 7 ∧ na ≤ 7 ∧ Hid (na + kk = K) ∧ Hid (acc.length = na) ∧ Hid (OpInv G nr Sn K (i + 1 + 1) acc kk i2) ∧ Hid (Mst w w.heap.size M B (.slice A NL c) L i2 wq (1 + y0) (Mu : Int) (1 + y2) (1 + y3) (1 + y4) ((N : Int) + y_9) y5 y6 (Sn : Int) (.slice A1 N c1) s1 (.slice A2 k m2) (.slice A3 k m3)) ∧ Hid (KB B we wq) ∧ Hid (wq.ownsRow we.heap.size 99 4 ov na (acc.flatMap oq))) (fun _ kv _ => (intOf kv).toNat)
              case atStart => exact ⟨[], K, i + 1 + 1, 0, rfl, by omega, by omega, hide (by omega), hide rfl, hide (OpInv.start _ _ _ _ _), HMS, hide (KB.refl _ _), hide (World.ownsRow_nil _ _ _ _)⟩
              case round =>
                clear HMS
                obtain ⟨acc, kk, i2, na, rfl, hkk, hna, HNK, HAN, HOI, HMS, HKE, HOP⟩ := hrel
                obtain ⟨Ap, cp, rfl, hcp1, hcp2⟩ := own_form HOP.out
                unfold maxLen at hcp2
                obtain ⟨c0, c1_, c2, c3, c4, c5, c6, c7, c8, c9, ca, cb, cc, cd⟩ := HMS.out.bp.cells
                by_cases hk0 : 0 < kk
                · obtain ⟨kp, rfl⟩ : ∃ m, kk = m + 1 := ⟨kk - 1, by omega⟩
                  have HOI2 := hide (OpInv.step HOI.out)
                  obtain ⟨⟨ok, or_, oa, os⟩, j2, hoj⟩ : ∃ o j, opG G nr Sn i2 = (o, j) := ⟨_, _, rfl⟩
                  rw [hoj] at HOI2
                  have HOJ := hide (show opG (byteG L) nr Sn i2 = (⟨ok, or_, oa, os⟩, j2) by rw [HG.out]; exact hoj)
                  have hn6 : na + 1 ≤ 7 := by have := HNK.out; omega
                  have HNK2 := hide (show na + 1 + kp = K by have := HNK.out; omega)
                  have HFO := hide (show (acc ++ [(⟨ok, or_, oa, os⟩ : Oq)]).flatMap oq = acc.flatMap oq ++ [.int .i64 ok, .int .i64 or_, .int .i64 oa, .int .i64 os] by rw [List.flatMap_append]; rfl)
                  clear hoj
                  go_wp2_with fail
                  (with_reducible refine (op_c M (.slice A NL c) L i2 (nr : Int) (Sn : Int) _ HMS.out.mk_ (HBY.out.below HMS.out.bl) HRL.out HNE.out (by omega) (by omega) _ _ HOJ.out).mono ?_)
                  rintro e_ wf ⟨rfl, hmk, hg⟩
                  have HMS := hide (HMS.out.call HLT.out hmk hg)
                  have HKE := hide (HKE.out.call hg HLT.out.hMB)
                  have HOP := hide (own_kb HOP.out (KB.call (KB.refl B _) hg HLT.out.hMB) (by have := HWE.out; omega))
                  have HKZ := hide HKE.out.size
                  clear hmk hg HOJ
                  clear c0 c1_ c2 c3 c4 c5 c6 c7 c8 c9 ca cb cc cd
                  go_wp2_with (at_builtin; refine wpList_append_own _ rfl _ _ 100 rfl we.heap.size 99 p0 (.agg #[.int .i64 0, .int .i64 0, .int .i64 0, .int .i64 0]) 4 32 Tryz.underlying100 hp pz0 pz1 pz2 rfl (by decide) _ _ _ rfl (HOP.out.alloc _) ⟨_, 0, none⟩ 1 1 [.int .i64 ok, .int .i64 or_, .int .i64 oa, .int .i64 os] rfl rfl (row_at _ _ _ (by simp)) (by simp [Value.oneCell']) (by simp only [maxLen]; omega) (by omega) (by have := HKZ.out; simp; omega) ?_; intro v' w6 hown' hgrow _)
                  go_roundw
                  case rel => exact ⟨acc ++ [⟨ok, or_, oa, os⟩], kp, j2, na + 1, by go_num, by omega, hn6, HNK2, hide (by rw [List.length_append, HAN.out]; rfl), HOI2, hide (Mst.app (HMS.out.below (balHp _ _)) HLT.out hgrow (fun x hx => by have h1 := own_ge HOP.out x hx; have := HWE.out; omega)), hide ((HKE.out.below (balHp _ _)).app hgrow (own_ge HOP.out)), hide (by rw [HFO.out]; exact hown')⟩
                  case measure => simp [intOf]
                · obtain rfl : kk = 0 := by omega
                  have HOS := hide (OpInv.stop HOI.out)
                  have HNX := hide (show mutsG G N Sn (k + 1) I0 = ((mutsG G N Sn k I0).1 ++ [(r, acc)], i2) by rw [HSO.out, HP.out, mutG_is (acc := acc) (m := i2) HRS.out (by rw [HRN.out, HKK.out]; exact HOS.out)])
                  have HN1 := hide (show (mutsG G N Sn (k + 1) I0).1.map (·.1) = (mutsG G N Sn k I0).1.map (·.1) ++ [r] by rw [HNX.out, List.map_append]; rfl)
                  have HN2 := hide (show (mutsG G N Sn (k + 1) I0).1.map (·.2) = (mutsG G N Sn k I0).1.map (·.2) ++ [acc] by rw [HNX.out, List.map_append]; rfl)
                  have HKT := hide (HKB.out.trans HKE.out)
                  have HKU := hide (HK9.out.trans HKT.out)
                  have HRG := hide (rows_kb HRG.out HKT.out HWB.out)
                  have HPG := hide (ops_kb HPG.out HKT.out HWB.out)
                  have HOW := hide (own_kb HOW.out HKE.out (by have := HKS.out; omega))
                  have hw9o := HK9.out.size
                  have hwoe := HKB.out.size
                  have hwer := HKE.out.size
                  have HB1 := hide (show w9.heap.size ≤ wo.heap.size from hw9o)
                  have HB2 := hide (show w9.heap.size ≤ we.heap.size by omega)
                  have HB3 := hide (show w9.heap.size ≤ wr.heap.size by omega)
                  clear hw9o hwoe hwer
                  have hml := (mutsG_ok G (n := N) (slots := (Sn : Int)) ⟨by omega, by omega⟩ k I0).2
                  obtain ⟨vs, htop, hlen, hrows⟩ := HRG.out
                  have hvk : vs.length = k := by rw [hlen, List.length_map, hml]
                  rw [hvk] at htop
                  have HT := hide htop
                  have HLN := hide hlen
                  have HRW := hide hrows
                  have HVK := hide hvk
                  clear htop hlen hrows hvk
                  obtain ⟨vp, ptop, plen, prows⟩ := HPG.out
                  have pvk : vp.length = k := by rw [plen, List.length_map, hml]
                  have PLN := hide plen
                  have PVK := hide pvk
                  clear ptop plen prows pvk hml
                  go_upto_region 32 with (at_builtin; refine wpList_append_own _ rfl _ _ 22 rfl w9.heap.size 47 j0 (.slice none 0 0) 1 24 Tryz.underlying22 hj jz0 jz1 jz2 rfl (by decide) _ _ _ rfl (HT.out.alloc _) ⟨_, 0, none⟩ 1 1 [.slice Ao nr co] rfl rfl (row_at _ _ _ (by simp)) (by simp [Value.oneCell']) (by simp only [maxLen]; omega) (by omega) (by have := HB3.out; simp; omega) ?_; intro v' w7 hown' hgrow _; obtain ⟨gz, cz, rfl⟩ := ownsRow_succ hown'; have HM7 := hide (Mst.app (HMS.out.below (balHp _ _)) HLT.out hgrow (fun x hx => by have h1 := own_ge HT.out x hx; have := HWB.out; omega)); have HOWN := hide hown'; have HGROW := hide hgrow; clear hown' hgrow; clear c0 c1_ c2 c3 c4 c5 c6 c7 c8 c9 ca cb cc cd; obtain ⟨c0, c1_, c2, c3, c4, c5, c6, c7, c8, c9, ca, cb, cc, cd⟩ := HM7.out.bp.cells; have f11 := HM7.out.bp.cellsF 11)
                  obtain ⟨Aq, cq, hq1, hq2, hq3⟩ := own_form HOWN.out
                  injection hq1 with hqa hqb hqc
                  subst hqc
                  unfold maxLen at hq3
                  clear hqa hqb
                  have hx := OwnRows.snoc (T := 47) (by decide) HLN.out (own_below (by rw [HVK.out]; exact HT.out) (balHp _ _)) (fun i u l hu hl => own_below (HRW.out i u l hu hl) (balHp _ _)) (l := r) (own_base (own_below (by rw [HRN.out]; exact HOW.out) (balHp _ _)) HB1.out) (by rw [HVK.out]; exact HOWN.out) HGROW.out
                  have hpg := OwnO.other (HPG.out.below (balHp _ _)) (own_below HT.out (balHp _ _)) (by decide) (by decide) HGROW.out
                  have hop := own_other (own_below HOP.out (balHp _ _)) (own_below HT.out (balHp _ _)) (by decide) HGROW.out
                  have hkb := (HKU.out.below (balHp _ _)).app HGROW.out (own_ge HT.out)
                  obtain ⟨wz, ez, hmz, hrz, hpz, hoz, hkz⟩ : ∃ Z, w7.setCell ⟨B, 11, none⟩ (.slice (some ⟨gz, 0, none⟩) (k + 1) cz) = Z ∧ Mst w w.heap.size M B (.slice A NL c) L i2 Z (1 + y0) (Mu : Int) (1 + y2) (1 + y3) (1 + y4) ((N : Int) + y_9) y5 y6 (Sn : Int) (.slice A1 N c1) s1 (.slice (some ⟨gz, 0, none⟩) (k + 1) cz) (.slice A3 k m3) ∧ OwnR w9.heap.size Z (.slice (some ⟨gz, 0, none⟩) (k + 1) cz) ((mutsG G N Sn (k + 1) I0).1.map (·.1)) ∧ OwnO w9.heap.size Z (.slice A3 k m3) ((mutsG G N Sn k I0).1.map (·.2)) ∧ Z.ownsRow we.heap.size 99 4 (.slice Ap na cp) na (acc.flatMap oq) ∧ KB B w9 Z :=
                    ⟨_, rfl, HM7.out.set HLT.out 11 _ rfl, by rw [HN1.out]; exact OwnRows.setCell_below hx (show B < w9.heap.size from HWB.out) _, hpg.set_below (show B < w9.heap.size from HWB.out) _, ownsRow_setCell_below hop (show B < we.heap.size from HWE.out) _, hkb.set _ _⟩
                  have HMS := hide hmz
                  have HRG := hide hrz
                  have HPG := hide hpz
                  have HOP := hide hoz
                  have HKU := hide hkz
                  have HEZ := hide ez
                  have HB4 := hide hkz.size
                  clear hmz hrz hpz hoz hkz ez hx hpg hop hkb
                  rw [HEZ.out]
                  clear c0 c1_ c2 c3 c4 c5 c6 c7 c8 c9 ca cb cc cd
                  clear f11
                  obtain ⟨c0, c1_, c2, c3, c4, c5, c6, c7, c8, c9, ca, cb, cc, cd⟩ := HMS.out.bp.cells
                  obtain ⟨vq, ptop, plen, prows⟩ := HPG.out
                  have pvk : vq.length = k := by rw [plen]; rw [← PLN.out]; exact PVK.out
                  rw [pvk] at ptop
                  have PT := hide ptop
                  have PLN := hide plen
                  have PRW := hide prows
                  have PVK := hide pvk
                  clear ptop plen prows pvk
                  go_wp2_with (at_builtin; refine wpList_append_own _ rfl _ _ 27 rfl w9.heap.size 100 k0 (.slice none 0 0) 1 24 Tryz.underlying27 hk kz0 kz1 kz2 rfl (by decide) _ _ _ rfl (PT.out.alloc _) ⟨_, 0, none⟩ 1 1 [.slice Ap na cp] rfl rfl (row_at _ _ _ (by simp)) (by simp [Value.oneCell']) (by simp only [maxLen]; omega) (by omega) (by have := HB4.out; simp; omega) ?_; intro v' w11 hown' hgrow _; obtain ⟨gy, cy, rfl⟩ := ownsRow_succ hown'; have HM11 := hide (Mst.app (HMS.out.below (balHp _ _)) HLT.out hgrow (fun x hx => by have h1 := own_ge PT.out x hx; have := HWB.out; omega)); have POWN := hide hown'; have PGROW := hide hgrow; clear hown' hgrow; clear c0 c1_ c2 c3 c4 c5 c6 c7 c8 c9 ca cb cc cd; obtain ⟨c0, c1_, c2, c3, c4, c5, c6, c7, c8, c9, ca, cb, cc, cd⟩ := HM11.out.bp.cells; have f12 := HM11.out.bp.cellsF 12)
                  go_roundw
                  case rel =>
                    obtain ⟨Ar, cr, hr1, hr2, hr3⟩ := own_form POWN.out
                    injection hr1 with hra hrb hrc
                    subst hrc
                    unfold maxLen at hr3
                    have hx := OwnO.snoc PLN.out (own_below (by rw [PVK.out]; exact PT.out) (balHp _ _)) (fun i u l hu hl => own_below (PRW.out i u l hu hl) (balHp _ _)) (l := acc) (own_base (own_below (by rw [HAN.out]; exact HOP.out) (balHp _ _)) HB2.out) (by rw [PVK.out]; exact POWN.out) PGROW.out
                    have hrg := OwnR.other (OwnRows.below HRG.out (balHp _ _)) (own_below PT.out (balHp _ _)) (by decide) (by decide) PGROW.out
                    have hkb := (HKU.out.below (balHp _ _)).app PGROW.out (own_ge PT.out)
                    exact ⟨k + 1, _, cz, _, cy, i2, by omega, by go_num, hq2, by omega, hr2, by omega, hide (by rw [HNX.out]), hide (HM11.out.set HLT.out 12 _ rfl), hide (hkb.set _ _), hide (OwnRows.setCell_below hrg (show B < w9.heap.size from HWB.out) _), hide (by rw [HN2.out]; exact hx.set_below (show B < w9.heap.size from HWB.out) _)⟩
                  case measure => simp [intOf]; omega
        · have hkE : Mu = k := by omega
          clear hlt hkM
          obtain rfl := hkE
          obtain ⟨r0, r1, r2, r3, r4, r5, r6, r7, r8, r9, ra, rb, rc, rd⟩ := HMS.out.rs.cells
          have g0 := HMS.out.rs.cellsF 0
          have g1 := HMS.out.rs.cellsF 1
          have g2 := HMS.out.rs.cellsF 2
          have g3 := HMS.out.rs.cellsF 3
          have g4 := HMS.out.rs.cellsF 4
          have g5 := HMS.out.rs.cellsF 5
          have g6 := HMS.out.rs.cellsF 6
          have g7 := HMS.out.rs.cellsF 7
          have g8 := HMS.out.rs.cellsF 8
          have g9 := HMS.out.rs.cellsF 9
          have ga := HMS.out.rs.cellsF 10
          have gb := HMS.out.rs.cellsF 11
          have gc := HMS.out.rs.cellsF 12
          have gd := HMS.out.rs.cellsF 13
          go_wp2
          obtain ⟨Z, eZ, hZ, hoth, hsz, hbz⟩ := plan_ret HMS.out.rs (.int .i64 (1 + y0)) (.int .i64 (Mu : Int)) (.int .i64 (1 + y2)) (.int .i64 (1 + y3)) (.int .i64 (1 + y4)) (.int .i64 ((N : Int) + y_9)) (.int .i64 y5) (.int .i64 y6) (.int .i64 (Sn : Int)) (.slice A1 N c1) (.int .u64 (s1 : Int)) (.slice A2 Mu m2) (.slice A3 Mu m3) (.slice none 0 0)
          rw [eZ]
          have q0 := cell_of_block hZ 0
          have q1 := cell_of_block hZ 1
          have q2 := cell_of_block hZ 2
          have q3 := cell_of_block hZ 3
          have q4 := cell_of_block hZ 4
          have q5 := cell_of_block hZ 5
          have q6 := cell_of_block hZ 6
          have q7 := cell_of_block hZ 7
          have q8 := cell_of_block hZ 8
          have q9 := cell_of_block hZ 9
          have qa := cell_of_block hZ 10
          have qb := cell_of_block hZ 11
          have qc := cell_of_block hZ 12
          have qd := cell_of_block hZ 13
          refine bodyPost_ret (v := planV (1 + y0) Mu (1 + y2) (1 + y3) (1 + y4) (N + y_9) y5 y6 Sn (.slice A1 N c1) s1 (.slice A2 Mu m2) (.slice A3 Mu m3) (.slice none 0 0)) (by simp [results, Tryz.results9, go_sem, q0, q1, q2, q3, q4, q5, q6, q7, q8, q9, qa, qb, qc, qd]) rfl ?_
          have hn : nG G = (N : Int) := HNN.out
          have hs : slG G = (Sn : Int) := HSN.out
          have hri : rootI G = 10 + N * Sn := by unfold rootI; rw [hn, hs, Int.toNat_natCast, Int.toNat_natCast]
          have hmu : (G 1 % 3).toNat = Mu := by rw [HXG_1.out, HY1.out]; rfl
          have hqq : q = ⟨1 + y0, Mu, 1 + y2, 1 + y3, 1 + y4, N + y_9, y5, y6, Sn, objsG G N Sn N 10, s1, (mutsG G N Sn Mu I0).1.map (·.1), (mutsG G N Sn Mu I0).1.map (·.2), []⟩ := by
            rw [← HQ.out]
            unfold madeG musG
            rw [hri, hn, hs, hmu, HXG_0.out, HY0.out, HXG_1.out, HY1.out, HXG_2.out, HY2.out, HXG_3.out, HY3.out, HXG_4.out, HY4.out, HXG_5.out, HY5.out, HXG_6.out, HY6.out, show G 9 = x_9 from HXG_9.out, HY_9.out, HXG_r.out, HY_r.out, HS1.out, HI0.out, Int.toNat_natCast, Int.toNat_natCast]
          subst hqq
          have hRB := HLT.out.hRB
          have hkz : KB B wo Z := ⟨by omega, fun x hB hx => hoth x (by omega)⟩
          exact ⟨_, _, _, rfl, ⟨OwnRows.grid (rows_kb (rows_kb HOB.out HK9.out (by omega)) hkz (by omega)), OwnRows.grid (rows_kb HRG.out hkz HWB.out), (ops_kb HPG.out hkz HWB.out).read, Sl.nil_⟩, HMS.out.bl.trans hbz⟩
end Go.Proofs.YtdmbcjckgfjcaaaGreatDoor
/- Layer plan: the law's own: a plan by bytes, its numbers out of sight; it is right. -/
namespace Go.Proofs.YtdmbcjckgfjcaaaGreatDoor
open Go.RowKit Go.Shelf Go.Proofs Go.Joins
/-- what is known of it -/
structure MadeQ (p : Pq) : Prop where
  rt : PRt p
  wk : p.wk ≤ 3
  mu : p.mu ≤ 2
  ob : p.ob.length ≤ 6
  ro : p.ro < 18446744073709551616
  rr : Rng p.rg
theorem madeQ (g : Nat → Int) : MadeQ (madeG g) := by
  have h : PRt (madeG g) := made_right g (ps := []) (by decide) (by simp)
  have h0 := mG g 0 3 (by decide)
  have h1 := mG g 1 3 (by decide)
  have h8 := mG g 8 6 (by decide)
  have hn : 1 ≤ nG g ∧ nG g ≤ 6 := by unfold nG; omega
  have hl : (madeG g).ob.length ≤ 6 := by
    show (objsG g (nG g) (slG g).toNat (nG g).toNat 10).length ≤ 6
    rw [(objsG_ok g (by omega) _ _ _).2]; omega
  refine ⟨h, ?_, ?_, hl, (made_small g).2.2, fun r hr x hx => ?_⟩
  · show 1 + g 0 % 3 ≤ 3; omega
  · show g 1 % 3 ≤ 2; omega
  · have := (regs_of h hr).1 x hx
    omega
end Go.Proofs.YtdmbcjckgfjcaaaGreatDoor
