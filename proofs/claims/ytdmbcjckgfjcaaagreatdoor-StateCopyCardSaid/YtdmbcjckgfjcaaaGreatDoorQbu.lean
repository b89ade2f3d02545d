/- Layer state: the law StateCopy. Written by tools/genstatelaw3.py. -/
import Derived.Test.YtdmbcjckgfjcaaaGreatDoorQbt
namespace Go.Proofs.YtdmbcjckgfjcaaaGreatDoor
open Go.RowKit Go.Joins Go.Shelf
theorem zeroSt (u : World) : (zeroValue 66).run Tryz.prog u = .ok (.agg st0Sa.toArray) u := by kernel_rfl
set_option maxRecDepth 100000 in
set_option maxHeartbeats 16000000 in
theorem copy_walk (v : Value) (l : List Int) (a b c : Nat) (w : World) (hl : Bytes w v l) (hr : ∀ b ∈ l, 0 ≤ b ∧ b ≤ 255) (ht : a < 256 ∧ b < 256 ∧ c < 256) (hE : EnvT w) :
    Calls Tryz.prog 5 #[v, .agg (tnL a b c).toArray] w fun x w' => x = .returned (.bool true) ∧ Below w.heap.size w w' := by
  obtain ⟨w1, e1, k1, hb1, -⟩ := box_newL w (tnL a b c) 33
  have HL := hide (hl.below hb1)
  have HR := hide hr
  have HE := hide (hE.below hb1)
  have HB := hide hb1
  have E1 := hide e1
  have HKT := hide k1
  obtain ⟨Av, cv, rfl, -, -, -⟩ := id hl
  obtain ⟨p, hp⟩ : ∃ p, madeG (byteG (l.take 90)) = p := ⟨_, rfl⟩
  have hq := madeQ (byteG (l.take 90))
  rw [hp] at hq
  obtain ⟨q, hn⟩ : ∃ q, sNew p = q := ⟨_, rfl⟩
  have hT := tn_new hq.rt hq.ro
  rw [hn] at hT
  obtain ⟨x, hx⟩ : ∃ x, turnS a b c q = x := ⟨_, rfl⟩
  have hTx := tn_turn a b c hT (by decide)
  rw [hx] at hTx
  have hm0 : 0 < x.m.length := by rw [← hx]; exact turnS_m (by rw [← hn]; exact new_m_pos hq.rt hq.ro)
  have hpr := pRight_iff.2 hq.rt
  have HP := hide hp
  have HQ := hide hq
  have HN := hide hn
  have HX := hide hx
  have HSQ := hide (sm_of hT (by decide))
  have HSX := hide (sm_of hTx (by decide))
  have HM0 := hide hm0
  have HPRT := hide hpr
  have HXX := hide (sSame_self x)
  clear hl hr hE e1 k1 hb1 hp hq hn hT hx hTx hm0 hpr
  go_enter Tryz.func5, Tryz.ntmps5
  go_upto_region 1 with (fail)
  rw [E1.out]
  clear E1
  go_upto_region 4 with (first
    | (go_at_call 8; (with_reducible refine (examples_anySa _ HE.out).mono ?_); rintro e_ wa ⟨rfl, hb⟩; replace HL := hide (HL.out.below hb); replace HE := hide (HE.out.below hb); replace HKT := hide (HKT.out.below hb); replace HB := hide (bcall HB.out hb); clear hb))
  have HBC := hide (show Below wa.heap.size wa wa.drew from ⟨rfl, rfl, rfl, Nat.le_refl _, fun _ _ => rfl⟩)
  refine wp_region_held_drew (S := fun w_ => Below wa.heap.size wa w_) (by kernel_rfl) ?_ (fun hHeld => ?_)
  · exact (by exact HBC.out)
  refine tk 0 (hy := fun w_ h_ => ex_loadk (m := (tnL a b c)) rfl rfl (HKT.out.below h_) Tryz.underlying33 rfl (by kernel_rfl) rfl) (h := ?_)
  refine tk 1 (h := ?_)
  refine wpAnyH_ready (rs := [2, 5]) (by kernel_rfl) (by simp) ?_
  refine AllReadyH.cons rfl (fun K hK => ?_) (AllReadyH.cons rfl (fun K hK => ?_) AllReadyH.nil)
  go_simp
  go_at_call 9
  (with_reducible refine (made_st _ l _ (HL.out.below HBC.out) HR.out p HP.out).mono ?_)
  rintro x_ w4 ⟨ob, rg, pg, rfl, hPR, hb⟩
  have HPR := hide hPR
  clear hPR
  have HBC := hide (bcall HBC.out hb)
  clear hb
  (try go_simp)
  refine hK.out _ _ (by exact HBC.out) (fun hHeld => ?_)
  clear hK
  (try simp only [Act.put, List.setIfInBounds_toArray, List.set_cons_zero, List.set_cons_succ])
  refine wpAnyH_ready (rs := [3, 5]) (by kernel_rfl) (by simp) ?_
  refine AllReadyH.cons rfl (fun K hK => ?_) (AllReadyH.cons rfl (fun K hK => ?_) AllReadyH.nil)
  go_simp
  go_at_call 13
  (with_reducible refine (New_n p q ob rg pg HN.out HPRT.out HQ.out.ro _ HPR.out (HE.out.below HBC.out)).mono ?_)
  rintro x_ w4 ⟨vs, rfl, hN, hb⟩
  have HRS := hide hN.read
  clear hN
  have HBC := hide (bcall HBC.out hb)
  clear hb
  (try go_simp)
  refine hK.out _ _ (by exact HBC.out) (fun hHeld => ?_)
  clear hK
  (try simp only [Act.put, List.setIfInBounds_toArray, List.set_cons_zero, List.set_cons_succ])
  refine wpAnyH_ready (rs := [4, 5]) (by kernel_rfl) (by simp) ?_
  refine AllReadyH.cons rfl (fun K hK => ?_) (AllReadyH.cons rfl (fun K hK => ?_) AllReadyH.nil)
  go_simp
  go_at_call 23
  (with_reducible refine (turned_q a b c q x vs HX.out _ HRS.out HSQ.out ht).mono ?_)
  rintro x_ w4 ⟨vx, rfl, hRX, hb⟩
  have HRX := hide hRX
  clear hRX
  have HBC := hide (bcall HBC.out hb)
  clear hb
  (try go_simp)
  refine hK.out _ _ (by exact HBC.out) (fun hHeld => ?_)
  clear hK
  (try simp only [Act.put, List.setIfInBounds_toArray, List.set_cons_zero, List.set_cons_succ])
  refine wpAnyH_ready (rs := [5]) (by kernel_rfl) (by simp) ?_
  refine AllReadyH.cons rfl (fun K hK => ?_) AllReadyH.nil
  refine step_alloc _ rfl 66 rfl (.agg st0Sa.toArray) st0Sa (zeroSt _) rfl ?_
  intro w4 Bo hBo hKB hb
  have HBW := hide (show wa.heap.size ≤ Bo by rw [hBo]; exact HBC.out.size)
  have HRX := hide (HRX.out.rel (rel_er_new hb (Nat.le_of_eq hBo.symm)))
  have HKB := hide hKB
  clear hKB hBo
  have HBC := hide (bcall HBC.out hb)
  clear hb
  (try go_simp)
  refine hK.out _ _ (by exact HBC.out) (fun hHeld => ?_)
  clear hK
  (try simp only [Act.put, List.setIfInBounds_toArray, List.set_cons_zero, List.set_cons_succ])
  refine wpAnyH_ready (rs := [6]) (by kernel_rfl) (by simp) ?_
  refine AllReadyH.cons rfl (fun K hK => ?_) AllReadyH.nil
  refine step_store_rowSa rfl 66 (.tmp 6) (.tmp 22) rfl Bo (stL x vx).toArray rfl rfl _ _ HKB.out (by kernel_rfl) rfl (stA_one x vx) ?_
  (try go_simp)
  refine hK.out _ _ (by exact below_setRow HBC.out HBW.out _) (fun hHeld => ?_)
  clear hK
  (try simp only [Act.put, List.setIfInBounds_toArray, List.set_cons_zero, List.set_cons_succ])
  refine wpAnyH_done (by kernel_rfl) ?_ _
  have hXk := bc_row HKB.out (stL x vx)
  have hXr := HRX.out.rel (rel_er_set w4 (stL x vx).toArray)
  have hXb := below_setRow HBC.out HBW.out (stL x vx).toArray
  obtain ⟨X, hX⟩ : ∃ X, w4.setRow Bo (stL x vx).toArray = X := ⟨_, rfl⟩
  rw [hX] at hXk hXr hXb
  rw [hX]
  have HKS := hide (show Bc 66 X Bo (stL x vx) from hXk)
  have HRS := hide hXr
  have HB := hide (HB.out.trans (hXb.mono HB.out.size))
  clear hXk hXr hXb hX HBC HKB HBW HRX
  rotate_left 1
  refine step_alloc _ rfl 66 rfl (.agg st0Sa.toArray) st0Sa (zeroSt _) rfl ?_
  intro w4 Bo hBo hKB hb
  have HBW := hide (show wa.heap.size ≤ Bo by rw [hBo]; exact HBC.out.size)
  have HRS := hide (HRS.out.rel (rel_er_new hb (Nat.le_of_eq hBo.symm)))
  have HKB := hide hKB
  clear hKB hBo
  have HBC := hide (bcall HBC.out hb)
  clear hb
  (try go_simp)
  refine hK.out _ _ (by exact HBC.out) (fun hHeld => ?_)
  clear hK
  (try simp only [Act.put, List.setIfInBounds_toArray, List.set_cons_zero, List.set_cons_succ])
  refine wpAnyH_ready (rs := [4]) (by kernel_rfl) (by simp) ?_
  refine AllReadyH.cons rfl (fun K hK => ?_) AllReadyH.nil
  go_simp
  go_at_call 23
  (with_reducible refine (turned_xq Bo a b c q x vs HX.out _ (Nat.le_of_lt HKB.out.lt) HRS.out HSQ.out ht).mono ?_)
  rintro x_ w4 ⟨vx, rfl, hRX, hb⟩
  have HRX := hide hRX
  clear hRX
  have HKB := hide (HKB.out.below hb)
  have HBC := hide (bcall HBC.out hb)
  clear hb
  (try go_simp)
  refine hK.out _ _ (by exact HBC.out) (fun hHeld => ?_)
  clear hK
  (try simp only [Act.put, List.setIfInBounds_toArray, List.set_cons_zero, List.set_cons_succ])
  refine wpAnyH_ready (rs := [6]) (by kernel_rfl) (by simp) ?_
  refine AllReadyH.cons rfl (fun K hK => ?_) AllReadyH.nil
  refine step_store_rowSa rfl 66 (.tmp 6) (.tmp 22) rfl Bo (stL x vx).toArray rfl rfl _ _ HKB.out (by kernel_rfl) rfl (stA_one x vx) ?_
  (try go_simp)
  refine hK.out _ _ (by exact below_setRow HBC.out HBW.out _) (fun hHeld => ?_)
  clear hK
  (try simp only [Act.put, List.setIfInBounds_toArray, List.set_cons_zero, List.set_cons_succ])
  refine wpAnyH_done (by kernel_rfl) ?_ _
  have hXk := bc_row HKB.out (stL x vx)
  have hXr := HRX.out.rel (rel_er_set w4 (stL x vx).toArray)
  have hXb := below_setRow HBC.out HBW.out (stL x vx).toArray
  obtain ⟨X, hX⟩ : ∃ X, w4.setRow Bo (stL x vx).toArray = X := ⟨_, rfl⟩
  rw [hX] at hXk hXr hXb
  rw [hX]
  have HKS := hide (show Bc 66 X Bo (stL x vx) from hXk)
  have HRS := hide hXr
  have HB := hide (HB.out.trans (hXb.mono HB.out.size))
  clear hXk hXr hXb hX HBC HKB HBW HRX
  rotate_left 1
  refine step_alloc _ rfl 66 rfl (.agg st0Sa.toArray) st0Sa (zeroSt _) rfl ?_
  intro w4 Bo hBo hKB hb
  have HBW := hide (show wa.heap.size ≤ Bo by rw [hBo]; exact HBC.out.size)
  have HPR := hide (HPR.out.below hb)
  have HKB := hide hKB
  clear hKB hBo
  have HBC := hide (bcall HBC.out hb)
  clear hb
  (try go_simp)
  refine hK.out _ _ (by exact HBC.out) (fun hHeld => ?_)
  clear hK
  (try simp only [Act.put, List.setIfInBounds_toArray, List.set_cons_zero, List.set_cons_succ])
  refine wpAnyH_ready (rs := [3]) (by kernel_rfl) (by simp) ?_
  refine AllReadyH.cons rfl (fun K hK => ?_) AllReadyH.nil
  go_simp
  go_at_call 13
  have hlt := HKB.out.lt
  (with_reducible refine (New_n p q ob rg pg HN.out HPRT.out HQ.out.ro _ HPR.out (HE.out.below HBC.out)).mono ?_)
  rintro x_ w4 ⟨vs, rfl, hN, hb⟩
  have HRS := hide (hN.grown (er_grown Bo _) (Nat.lt_of_lt_of_le hlt (Nat.le_add_right _ 2))).read
  clear hN hlt
  have HKB := hide (HKB.out.below hb)
  have HBC := hide (bcall HBC.out hb)
  clear hb
  (try go_simp)
  refine hK.out _ _ (by exact HBC.out) (fun hHeld => ?_)
  clear hK
  (try simp only [Act.put, List.setIfInBounds_toArray, List.set_cons_zero, List.set_cons_succ])
  refine wpAnyH_ready (rs := [4]) (by kernel_rfl) (by simp) ?_
  refine AllReadyH.cons rfl (fun K hK => ?_) AllReadyH.nil
  go_simp
  go_at_call 23
  (with_reducible refine (turned_xq Bo a b c q x vs HX.out _ (Nat.le_of_lt HKB.out.lt) HRS.out HSQ.out ht).mono ?_)
  rintro x_ w4 ⟨vx, rfl, hRX, hb⟩
  have HRX := hide hRX
  clear hRX
  have HKB := hide (HKB.out.below hb)
  have HBC := hide (bcall HBC.out hb)
  clear hb
  (try go_simp)
  refine hK.out _ _ (by exact HBC.out) (fun hHeld => ?_)
  clear hK
  (try simp only [Act.put, List.setIfInBounds_toArray, List.set_cons_zero, List.set_cons_succ])
  refine wpAnyH_ready (rs := [6]) (by kernel_rfl) (by simp) ?_
  refine AllReadyH.cons rfl (fun K hK => ?_) AllReadyH.nil
  refine step_store_rowSa rfl 66 (.tmp 6) (.tmp 22) rfl Bo (stL x vx).toArray rfl rfl _ _ HKB.out (by kernel_rfl) rfl (stA_one x vx) ?_
  (try go_simp)
  refine hK.out _ _ (by exact below_setRow HBC.out HBW.out _) (fun hHeld => ?_)
  clear hK
  (try simp only [Act.put, List.setIfInBounds_toArray, List.set_cons_zero, List.set_cons_succ])
  refine wpAnyH_done (by kernel_rfl) ?_ _
  have hXk := bc_row HKB.out (stL x vx)
  have hXr := HRX.out.rel (rel_er_set w4 (stL x vx).toArray)
  have hXb := below_setRow HBC.out HBW.out (stL x vx).toArray
  obtain ⟨X, hX⟩ : ∃ X, w4.setRow Bo (stL x vx).toArray = X := ⟨_, rfl⟩
  rw [hX] at hXk hXr hXb
  rw [hX]
  have HKS := hide (show Bc 66 X Bo (stL x vx) from hXk)
  have HRS := hide hXr
  have HB := hide (HB.out.trans (hXb.mono HB.out.size))
  clear hXk hXr hXb hX HBC HKB HBW HRX
  rotate_left 1
  refine step_alloc _ rfl 66 rfl (.agg st0Sa.toArray) st0Sa (zeroSt _) rfl ?_
  intro w4 Bo hBo hKB hb
  have HBW := hide (show wa.heap.size ≤ Bo by rw [hBo]; exact HBC.out.size)
  have HKB := hide hKB
  clear hKB hBo
  have HBC := hide (bcall HBC.out hb)
  clear hb
  (try go_simp)
  refine hK.out _ _ (by exact HBC.out) (fun hHeld => ?_)
  clear hK
  (try simp only [Act.put, List.setIfInBounds_toArray, List.set_cons_zero, List.set_cons_succ])
  refine wpAnyH_ready (rs := [2]) (by kernel_rfl) (by simp) ?_
  refine AllReadyH.cons rfl (fun K hK => ?_) AllReadyH.nil
  go_simp
  go_at_call 9
  (with_reducible refine (made_st _ l _ (HL.out.below HBC.out) HR.out p HP.out).mono ?_)
  rintro x_ w4 ⟨ob, rg, pg, rfl, hPR, hb⟩
  have HPR := hide hPR
  clear hPR
  have HKB := hide (HKB.out.below hb)
  have HBC := hide (bcall HBC.out hb)
  clear hb
  (try go_simp)
  refine hK.out _ _ (by exact HBC.out) (fun hHeld => ?_)
  clear hK
  (try simp only [Act.put, List.setIfInBounds_toArray, List.set_cons_zero, List.set_cons_succ])
  refine wpAnyH_ready (rs := [3]) (by kernel_rfl) (by simp) ?_
  refine AllReadyH.cons rfl (fun K hK => ?_) AllReadyH.nil
  go_simp
  go_at_call 13
  have hlt := HKB.out.lt
  (with_reducible refine (New_n p q ob rg pg HN.out HPRT.out HQ.out.ro _ HPR.out (HE.out.below HBC.out)).mono ?_)
  rintro x_ w4 ⟨vs, rfl, hN, hb⟩
  have HRS := hide (hN.grown (er_grown Bo _) (Nat.lt_of_lt_of_le hlt (Nat.le_add_right _ 2))).read
  clear hN hlt
  have HKB := hide (HKB.out.below hb)
  have HBC := hide (bcall HBC.out hb)
  clear hb
  (try go_simp)
  refine hK.out _ _ (by exact HBC.out) (fun hHeld => ?_)
  clear hK
  (try simp only [Act.put, List.setIfInBounds_toArray, List.set_cons_zero, List.set_cons_succ])
  refine wpAnyH_ready (rs := [4]) (by kernel_rfl) (by simp) ?_
  refine AllReadyH.cons rfl (fun K hK => ?_) AllReadyH.nil
  go_simp
  go_at_call 23
  (with_reducible refine (turned_xq Bo a b c q x vs HX.out _ (Nat.le_of_lt HKB.out.lt) HRS.out HSQ.out ht).mono ?_)
  rintro x_ w4 ⟨vx, rfl, hRX, hb⟩
  have HRX := hide hRX
  clear hRX
  have HKB := hide (HKB.out.below hb)
  have HBC := hide (bcall HBC.out hb)
  clear hb
  (try go_simp)
  refine hK.out _ _ (by exact HBC.out) (fun hHeld => ?_)
  clear hK
  (try simp only [Act.put, List.setIfInBounds_toArray, List.set_cons_zero, List.set_cons_succ])
  refine wpAnyH_ready (rs := [6]) (by kernel_rfl) (by simp) ?_
  refine AllReadyH.cons rfl (fun K hK => ?_) AllReadyH.nil
  refine step_store_rowSa rfl 66 (.tmp 6) (.tmp 22) rfl Bo (stL x vx).toArray rfl rfl _ _ HKB.out (by kernel_rfl) rfl (stA_one x vx) ?_
  (try go_simp)
  refine hK.out _ _ (by exact below_setRow HBC.out HBW.out _) (fun hHeld => ?_)
  clear hK
  (try simp only [Act.put, List.setIfInBounds_toArray, List.set_cons_zero, List.set_cons_succ])
  refine wpAnyH_done (by kernel_rfl) ?_ _
  have hXk := bc_row HKB.out (stL x vx)
  have hXr := HRX.out.rel (rel_er_set w4 (stL x vx).toArray)
  have hXb := below_setRow HBC.out HBW.out (stL x vx).toArray
  obtain ⟨X, hX⟩ : ∃ X, w4.setRow Bo (stL x vx).toArray = X := ⟨_, rfl⟩
  rw [hX] at hXk hXr hXb
  rw [hX]
  have HKS := hide (show Bc 66 X Bo (stL x vx) from hXk)
  have HRS := hide hXr
  have HB := hide (HB.out.trans (hXb.mono HB.out.size))
  clear hXk hXr hXb hX HBC HKB HBW HRX
  all_goals
    clear HL HE HR HKT
    have HBX := hide (show Below X.heap.size X X from Below.refl _ _)
    have HBX0 := HB
    have HRS0 := HRS
    have HKS0 := HKS
    go_upto_region 6 with (first
      | (refine wpList_load_row rfl 66 (.tmp 6) rfl Bo rfl (stL x vx).toArray _ _ _ HKS.out Tryz.underlying66 rfl (by kernel_rfl) ?_)
      | (go_at_call 25; (with_reducible refine (Copy_any x vx _ HRS.out HSX.out).mono ?_); rintro e_ wc ⟨vc, rfl, hpc, hC, hb⟩; replace HRS := hide (HRS.out.below hb); replace HKS := hide (HKS.out.below hb); replace HB := hide (bcall HB.out hb); replace HBX := hide (bcall HBX.out hb); have HCC := hide hC; clear hC; clear hb)
      | (refine wpList_store_row rfl 66 (.tmp 7) (.tmp 24) rfl wc.heap.size rfl (stL x vc).toArray rfl _ _ (heap_alloc_new wc _) (by kernel_rfl) rfl (stA_one x vc) ?_; rw [setRow_alloc]))
    have HRC := hide (copy_read HRS.out hpc HCC.out)
    obtain ⟨B, hB1, hB2⟩ := rows_heads HCC.out.bins
    obtain ⟨O, hO1, hO2⟩ := rows_heads HCC.out.hob
    obtain ⟨U, hU1, hU2⟩ := muts_heads HCC.out.ms
    obtain ⟨gM, curM, hM1, hM2, hM3, hM4, hM5, hM6⟩ := cells_row HCC.out.m HM0.out
    have HB1 := hide hB1
    have HO1 := hide hO1
    have HU1 := hide hU1
    have HB2 := hide hB2
    have HO2 := hide hO2
    have HU2 := hide hU2
    have HM5 := hide hM5
    have HMA := hide (show hdV vc.m = .slice (some ⟨gM, 0, none⟩) x.m.length vc.m.2.2 by show Value.slice vc.m.1 vc.m.2.1 vc.m.2.2 = _; rw [hM1, hM2])
    have HM3 := hide hM3
    have HM4 := hide hM4
    have HM6 := hide (Nat.lt_of_lt_of_le HM0.out hM6)
    clear hB1 hO1 hU1 hB2 hO2 hU2 hM1 hM2 hM3 hM4 hM5 hM6
    have hbM : ∀ {y z : World}, Below y.heap.size y z → y.heap[gM]? = some (.cells curM 25 (0, 0)) → z.heap[gM]? = some (.cells curM 25 (0, 0)) := fun hb h => (hb.block gM (Array.getElem?_eq_some_iff.1 h).1).trans h
    obtain ⟨we, e_, k_, hb, hs_⟩ := box_newL wc (stL x vc) 66
    rw [e_]
    clear e_
    replace HRS := hide (HRS.out.below hb)
    replace HKS := hide (HKS.out.below hb)
    replace HRC := hide (HRC.out.below hb)
    replace HB := hide (bcall HB.out hb)
    replace HBX := hide (bcall HBX.out hb)
    have HKC := hide k_
    replace HB1 := hide (own_below HB1.out hb)
    replace HO1 := hide (own_below HO1.out hb)
    replace HU1 := hide (own_below HU1.out hb)
    replace HB2 := hide (fun h_ m_ => (HB2.out h_ m_).below hb)
    replace HO2 := hide (fun h_ m_ => (HO2.out h_ m_).below hb)
    replace HU2 := hide (fun h_ m_ => (HU2.out h_ m_).below hb)
    replace HM5 := hide (hbM hb HM5.out)
    have HES := hide hs_
    clear k_ hb hs_
    go_upto_region 7 with (first
      | (refine wpList_load_row rfl 66 (.tmp 7) rfl wc.heap.size rfl (stL x vc).toArray _ _ _ HKC.out Tryz.underlying66 rfl (by kernel_rfl) ?_)
      | (go_at_call 25; (with_reducible refine (Copy_any x vc _ HRC.out HSX.out).mono ?_); rintro e_ wd ⟨vd, rfl, hpd, hD, hb⟩; replace HRS := hide (HRS.out.below hb); replace HKS := hide (HKS.out.below hb); replace HRC := hide (HRC.out.below hb); replace HKC := hide (HKC.out.below hb); replace HB := hide (bcall HB.out hb); replace HBX := hide (bcall HBX.out hb); have HCD := hide hD; clear hD; have HBT := hide hb; clear hb)
      | (refine wpList_store_row rfl 66 (.tmp 8) (.tmp 26) rfl wd.heap.size rfl (stL x vd).toArray rfl _ _ (heap_alloc_new wd _) (by kernel_rfl) rfl (stA_one x vd) ?_; rw [setRow_alloc]))
    replace HB1 := hide (own_below HB1.out HBT.out)
    replace HO1 := hide (own_below HO1.out HBT.out)
    replace HU1 := hide (own_below HU1.out HBT.out)
    replace HB2 := hide (fun h_ m_ => (HB2.out h_ m_).below HBT.out)
    replace HO2 := hide (fun h_ m_ => (HO2.out h_ m_).below HBT.out)
    replace HU2 := hide (fun h_ m_ => (HU2.out h_ m_).below HBT.out)
    replace HM5 := hide (hbM HBT.out HM5.out)
    clear HBT
    obtain ⟨wf, e_, k_, hb, hs_⟩ := box_newL wd (stL x vd) 66
    rw [e_]
    clear e_
    replace HRS := hide (HRS.out.below hb)
    replace HKS := hide (HKS.out.below hb)
    replace HRC := hide (HRC.out.below hb)
    replace HKC := hide (HKC.out.below hb)
    replace HB := hide (bcall HB.out hb)
    replace HBX := hide (bcall HBX.out hb)
    have HKD := hide k_
    replace HB1 := hide (own_below HB1.out hb)
    replace HO1 := hide (own_below HO1.out hb)
    replace HU1 := hide (own_below HU1.out hb)
    replace HB2 := hide (fun h_ m_ => (HB2.out h_ m_).below hb)
    replace HO2 := hide (fun h_ m_ => (HO2.out h_ m_).below hb)
    replace HU2 := hide (fun h_ m_ => (HU2.out h_ m_).below hb)
    replace HM5 := hide (hbM hb HM5.out)
    replace HCD := hide (HCD.out.below hb)
    clear k_ hb hs_
    go_upto_region 9 with (first
      | (refine wpList_load_row rfl 66 (.tmp 6) rfl Bo rfl (stL x vx).toArray _ _ _ HKS.out Tryz.underlying66 rfl (by kernel_rfl) ?_)
      | (refine wpList_load_row rfl 66 (.tmp 7) rfl wc.heap.size rfl (stL x vc).toArray _ _ _ HKC.out Tryz.underlying66 rfl (by kernel_rfl) ?_)
      | (refine wpList_load_bcg rfl 66 (.tmp 7) rfl wc.heap.size rfl (stL x vc) HKC.out _ Tryz.underlying66 rfl (by kernel_rfl) ?_)
      | (refine wpList_load_bcg rfl 66 (.tmp 6) rfl Bo rfl (stL x vx) HKS.out _ Tryz.underlying66 rfl (by kernel_rfl) ?_)
      | (go_at_call 24; (with_reducible refine (Same_q x x vx vc _ true HRS.out HRC.out HXX.out).mono ?_); rintro e_ wg ⟨rfl, hb⟩; replace HRS := hide (HRS.out.below hb); replace HKS := hide (HKS.out.below hb); replace HRC := hide (HRC.out.below hb); replace HKC := hide (HKC.out.below hb); replace HKD := hide (HKD.out.below hb); replace HB := hide (bcall HB.out hb); replace HBX := hide (bcall HBX.out hb); have HT1 := hide hb; clear hb)
      | (go_at_call 24; (with_reducible refine (Same_q x x vc vx _ true HRC.out HRS.out HXX.out).mono ?_); rintro e_ wh ⟨rfl, hb⟩; replace HRS := hide (HRS.out.below hb); replace HKS := hide (HKS.out.below hb); replace HRC := hide (HRC.out.below hb); replace HKC := hide (HKC.out.below hb); replace HKD := hide (HKD.out.below hb); replace HB := hide (bcall HB.out hb); replace HBX := hide (bcall HBX.out hb); have HT2 := hide hb; clear hb))
    have HT3 := hide (bcall HT1.out HT2.out)
    replace HB1 := hide (own_below HB1.out HT3.out)
    replace HO1 := hide (own_below HO1.out HT3.out)
    replace HU1 := hide (own_below HU1.out HT3.out)
    replace HB2 := hide (fun h_ m_ => (HB2.out h_ m_).below HT3.out)
    replace HO2 := hide (fun h_ m_ => (HO2.out h_ m_).below HT3.out)
    replace HU2 := hide (fun h_ m_ => (HU2.out h_ m_).below HT3.out)
    replace HM5 := hide (hbM HT3.out HM5.out)
    replace HCD := hide (HCD.out.below HT3.out)
    clear HT1 HT2 HT3
    obtain ⟨E, hEE⟩ : ∃ E, we.heap.size = E := ⟨_, rfl⟩
    obtain ⟨bc, hbc⟩ : ∃ n, wc.heap.size = n := ⟨_, rfl⟩
    obtain ⟨bd, hbd⟩ : ∃ n, wd.heap.size = n := ⟨_, rfl⟩
    have hEb : bc < E := by have := HES.out; omega
    rw [hEE] at HCD
    rw [hbc] at HKC HB2 HO2 HU2 HM4 ⊢
    rw [hbd] at HKD ⊢
    have HI := hide (show ScI X E bc vc vd x B O U bc bd wh from ⟨HBX.out, HCD.out, HB1.out, HB2.out, HO1.out, HO2.out, HU1.out, HU2.out, HKC.out, HKD.out⟩)
    have hpd2 : vd.ob = vx.ob ∧ vd.rg = vx.rg ∧ vd.pg = vx.pg ∧ vd.pk = vx.pk := ⟨hpd.1.trans hpc.1, hpd.2.1.trans hpc.2.1, hpd.2.2.1.trans hpc.2.2.1, hpd.2.2.2.trans hpc.2.2.2⟩
    have HPD := hide hpd2
    have HEB := hide hEb
    clear hpd2 hpd hpc hEE hbc hbd hEb HB1 HB2 HO1 HO2 HU1 HU2 HCD HKD HKC HES hbM HRC
    have c16 : wh.cell? ⟨bc, 16, none⟩ = some (.slice (some ⟨gM, 0, none⟩) x.m.length vc.m.2.2) := (HI.out.kc.cell 16).trans (congrArg some HMA.out)
    obtain ⟨u0, cM⟩ := cell_some HM5.out HM6.out
    have fM := unfrozen_of_block HM5.out 0
    have hm0 := HM0.out
    have hmi : ¬ ((x.m.length : Int) ≤ 0) := by omega
    have hmd : decide ((0 : Int) < (x.m.length : Int)) = true := by rw [decide_eq_true_eq]; omega
    go_upto_region 11 with (fail)
    have HJ := hide (HI.out.set HM5.out (.inr rfl) HM3.out (by have := HM4.out; have := HEB.out; omega) 0 (.int .u64 77))
    obtain ⟨wm, hwm⟩ : ∃ W, wh.setCell ⟨gM, 0, none⟩ (.int .u64 77) = W := ⟨_, rfl⟩
    rw [hwm] at HJ
    rw [hwm]
    clear c16 cM fM hm0 hmi hmd hwm HI HM5 HM6 HMA HM3 HM4
    obtain ⟨Ab, cb, eb, l1, l2, -⟩ := Sl.of_own oh_len HJ.out.bo
    unfold maxLen at l2
    have hlN := Nat.le_trans l1 l2
    have HFb := hide eb
    clear eb
    obtain ⟨Nb, hNb⟩ : ∃ n, B.length = n := ⟨_, rfl⟩
    rw [hNb] at HFb hlN
    clear l1 l2
    have HNb := hide hNb
    clear hNb
    go_wp2
    go_loopw [9] (fun iv wr => ∃ i : Nat, i ≤ Nb ∧ iv = .int .i64 (i : Int) ∧ Hid (ScI X E bc vc vd x B O U bc bd wr)) (fun iv _ => Nb - (Go.RowKit.intOf iv).toNat)
    case atStart => exact ⟨0, Nat.zero_le _, rfl, HJ⟩
    case round =>
      clear HJ
      obtain ⟨i, hi, rfl, HJ⟩ := hrel
      have cf : wr.cell? ⟨bc, 17, none⟩ = some (.slice Ab Nb cb) := (HJ.out.kc.cell 17).trans (congrArg some HFb.out)
      by_cases hit : i < Nb
      · have hil : i < B.length := by rw [HNb.out]; exact hit
        obtain ⟨xe, hxe⟩ : ∃ y, B[i] = y := ⟨_, rfl⟩
        have hxi : B[i]? = some xe := by rw [List.getElem?_eq_getElem hil, hxe]
        have hxm : xe ∈ B := List.mem_of_getElem? hxi
        obtain ⟨Ah, nh, ch, hdq⟩ : ∃ A m c, xe = ((A, m, c) : Hd) := ⟨_, _, _, rfl⟩
        have hnl : nh ≤ 9223372036854775807 := by have h := (HJ.out.bi _ hxm).1; rw [hdq] at h; exact h
        have hrow : ∀ z : World, ScI X E bc vc vd x B O U bc bd z → ∃ b off, Ab = some ⟨b, off, none⟩ ∧ z.cell? ⟨b, off + i * 1 + 0, none⟩ = some (.slice Ah nh ch) := fun z hz => by
          obtain ⟨A_, c_, e_, -, -, h3⟩ := Sl.of_own oh_len hz.bo
          obtain ⟨b, off, e2, -, h4⟩ := h3 (by omega)
          have e5 := HFb.out
          rw [HNb.out, e5] at e_
          injection e_ with e6
          refine ⟨b, off, e6.trans e2, ?_⟩
          have h5 := h4 i xe hxi 0 (hdV xe) rfl
          rw [h5, hdq]
        obtain ⟨b_, off, rfl, ce⟩ := hrow _ HJ.out
        simp only [Nat.mul_one, Nat.add_zero] at ce
        have HROW := hide hrow
        have HXM := hide hxm
        have HDQ := hide hdq
        have hdec : decide ((i : Int) < (Nb : Int)) = true := by rw [decide_eq_true_eq]; omega
        clear hxe hxi hxm hdq hrow hil
        go_wp2
        go_loopw [10] (fun kv wr => ∃ k : Nat, k ≤ nh ∧ kv = .int .i64 (k : Int) ∧ Hid (ScI X E bc vc vd x B O U bc bd wr)) (fun kv _ => nh - (Go.RowKit.intOf kv).toNat)
        case atStart => exact ⟨0, Nat.zero_le _, rfl, HJ⟩
        case round =>
          clear HJ cf ce
          obtain ⟨k, hk, rfl, HJ⟩ := hrel
          have cf : wr.cell? ⟨bc, 17, none⟩ = some (.slice (some ⟨b_, off, none⟩) Nb cb) := (HJ.out.kc.cell 17).trans (congrArg some HFb.out)
          obtain ⟨b2, off2, e2, ce⟩ := HROW.out _ HJ.out
          injection e2 with e2
          injection e2 with e2 e3
          subst e2 e3
          simp only [Nat.mul_one, Nat.add_zero] at ce
          by_cases hkt : k < nh
          · have hro := HJ.out.bi _ HXM.out
            rw [HDQ.out] at hro
            obtain ⟨g, cur, hA, h1, h2, h3, h4⟩ := hro.at (Nat.lt_of_le_of_lt (Nat.zero_le k) hkt)
            have hA : Ah = some ⟨g, 0, none⟩ := hA
            subst hA
            have h4 : nh ≤ cur.size := h4
            obtain ⟨u_, ck⟩ := cell_some h3 (Nat.lt_of_lt_of_le hkt h4)
            have fk := unfrozen_of_block h3 k
            have HS := hide (HJ.out.set h3 (.inl rfl) h1 (Nat.lt_trans h2 HEB.out) k (.int .i64 88))
            clear hro h1 h2 h3 h4 HJ
            go_wp2
            go_roundw
            case rel => exact ⟨k + 1, by omega, by go_num, HS⟩
            case measure => simp [Go.RowKit.intOf]; omega
          · obtain rfl : nh = k := by omega
            go_wp2
            go_roundw
            case rel => exact ⟨i + 1, by omega, by go_num, HJ⟩
            case measure => simp [Go.RowKit.intOf]; omega
      · obtain rfl : Nb = i := by omega
        skip
        go_upto_region 18 with (fail)
        obtain ⟨wn, rfl⟩ : ∃ W, W = wr := ⟨_, rfl⟩
        clear cf hi hit
        obtain ⟨Au, cu, eu, l1, l2, -⟩ := Sl.of_own utE_len HJ.out.uo
        unfold maxLen at l2
        have hlN := Nat.le_trans l1 l2
        have HFu := hide eu
        clear eu
        obtain ⟨Nu, hNu⟩ : ∃ n, U.length = n := ⟨_, rfl⟩
        rw [hNu] at HFu hlN
        clear l1 l2
        have HNu := hide hNu
        clear hNu
        go_wp2
        go_loopw [11] (fun iv wr => ∃ i : Nat, i ≤ Nu ∧ iv = .int .i64 (i : Int) ∧ Hid (ScI X E bc vc vd x B O U bc bd wr)) (fun iv _ => Nu - (Go.RowKit.intOf iv).toNat)
        case atStart => exact ⟨0, Nat.zero_le _, rfl, HJ⟩
        case round =>
          clear HJ
          obtain ⟨i, hi, rfl, HJ⟩ := hrel
          have cf : wr.cell? ⟨bc, 31, none⟩ = some (.slice Au Nu cu) := (HJ.out.kc.cell 31).trans (congrArg some HFu.out)
          by_cases hit : i < Nu
          · have hil : i < U.length := by rw [HNu.out]; exact hit
            obtain ⟨xe, hxe⟩ : ∃ y, U[i] = y := ⟨_, rfl⟩
            have hxi : U[i]? = some xe := by rw [List.getElem?_eq_getElem hil, hxe]
            have hxm : xe ∈ U := List.mem_of_getElem? hxi
            obtain ⟨Ah, nh, ch, hdq⟩ : ∃ A m c, xe.2.1 = ((A, m, c) : Hd) := ⟨_, _, _, rfl⟩
            have hnl : nh ≤ 9223372036854775807 := by have h := (HJ.out.ui _ hxm).1; rw [hdq] at h; exact h
            have hrow : ∀ z : World, ScI X E bc vc vd x B O U bc bd z → ∃ b off, Au = some ⟨b, off, none⟩ ∧ z.cell? ⟨b, off + i * 41 + 8, none⟩ = some (.slice Ah nh ch) := fun z hz => by
              obtain ⟨A_, c_, e_, -, -, h3⟩ := Sl.of_own utE_len hz.uo
              obtain ⟨b, off, e2, -, h4⟩ := h3 (by omega)
              have e5 := HFu.out
              rw [HNu.out, e5] at e_
              injection e_ with e6
              refine ⟨b, off, e6.trans e2, ?_⟩
              have h5 := h4 i xe hxi 8 (hdV xe.2.1) rfl
              rw [h5, hdq]
            obtain ⟨b_, off, rfl, ce⟩ := hrow _ HJ.out
            have HROW := hide hrow
            have HXM := hide hxm
            have HDQ := hide hdq
            have hdec : decide ((i : Int) < (Nu : Int)) = true := by rw [decide_eq_true_eq]; omega
            clear hxe hxi hxm hdq hrow hil
            go_wp2
            go_loopw [12] (fun kv wr => ∃ k : Nat, k ≤ nh ∧ kv = .int .i64 (k : Int) ∧ Hid (ScI X E bc vc vd x B O U bc bd wr)) (fun kv _ => nh - (Go.RowKit.intOf kv).toNat)
            case atStart => exact ⟨0, Nat.zero_le _, rfl, HJ⟩
            case round =>
              clear HJ cf ce
              obtain ⟨k, hk, rfl, HJ⟩ := hrel
              have cf : wr.cell? ⟨bc, 31, none⟩ = some (.slice (some ⟨b_, off, none⟩) Nu cu) := (HJ.out.kc.cell 31).trans (congrArg some HFu.out)
              obtain ⟨b2, off2, e2, ce⟩ := HROW.out _ HJ.out
              injection e2 with e2
              injection e2 with e2 e3
              subst e2 e3
              by_cases hkt : k < nh
              · have hro := HJ.out.ui _ HXM.out
                rw [HDQ.out] at hro
                obtain ⟨g, cur, hA, h1, h2, h3, h4⟩ := hro.at (Nat.lt_of_le_of_lt (Nat.zero_le k) hkt)
                have hA : Ah = some ⟨g, 0, none⟩ := hA
                subst hA
                have h4 : nh ≤ cur.size := h4
                obtain ⟨u_, ck⟩ := cell_some h3 (Nat.lt_of_lt_of_le hkt h4)
                have fk := unfrozen_of_block h3 k
                have HS := hide (HJ.out.set h3 (.inl rfl) h1 (Nat.lt_trans h2 HEB.out) k (.int .i64 99))
                clear hro h1 h2 h3 h4 HJ
                go_wp2
                go_roundw
                case rel => exact ⟨k + 1, by omega, by go_num, HS⟩
                case measure => simp [Go.RowKit.intOf]; omega
              · obtain rfl : nh = k := by omega
                go_wp2
                go_roundw
                case rel => exact ⟨i + 1, by omega, by go_num, HJ⟩
                case measure => simp [Go.RowKit.intOf]; omega
          · obtain rfl : Nu = i := by omega
            skip
            go_upto_region 25 with (fail)
            obtain ⟨wo, rfl⟩ : ∃ W, W = wr := ⟨_, rfl⟩
            clear cf hi hit
            obtain ⟨Ao, co, eo, l1, l2, -⟩ := Sl.of_own oh_len HJ.out.oo
            unfold maxLen at l2
            have hlN := Nat.le_trans l1 l2
            have HFo := hide eo
            clear eo
            obtain ⟨No, hNo⟩ : ∃ n, O.length = n := ⟨_, rfl⟩
            rw [hNo] at HFo hlN
            clear l1 l2
            have HNo := hide hNo
            clear hNo
            go_wp2
            go_loopw [13] (fun iv wr => ∃ i : Nat, i ≤ No ∧ iv = .int .i64 (i : Int) ∧ Hid (ScI X E bc vc vd x B O U bc bd wr)) (fun iv _ => No - (Go.RowKit.intOf iv).toNat)
            case atStart => exact ⟨0, Nat.zero_le _, rfl, HJ⟩
            case round =>
              clear HJ
              obtain ⟨i, hi, rfl, HJ⟩ := hrel
              have cf : wr.cell? ⟨bc, 15, none⟩ = some (.slice Ao No co) := (HJ.out.kc.cell 15).trans (congrArg some HFo.out)
              by_cases hit : i < No
              · have hil : i < O.length := by rw [HNo.out]; exact hit
                obtain ⟨xe, hxe⟩ : ∃ y, O[i] = y := ⟨_, rfl⟩
                have hxi : O[i]? = some xe := by rw [List.getElem?_eq_getElem hil, hxe]
                have hxm : xe ∈ O := List.mem_of_getElem? hxi
                obtain ⟨Ah, nh, ch, hdq⟩ : ∃ A m c, xe = ((A, m, c) : Hd) := ⟨_, _, _, rfl⟩
                have hnl : nh ≤ 9223372036854775807 := by have h := (HJ.out.oi _ hxm).1; rw [hdq] at h; exact h
                have hrow : ∀ z : World, ScI X E bc vc vd x B O U bc bd z → ∃ b off, Ao = some ⟨b, off, none⟩ ∧ z.cell? ⟨b, off + i * 1 + 0, none⟩ = some (.slice Ah nh ch) := fun z hz => by
                  obtain ⟨A_, c_, e_, -, -, h3⟩ := Sl.of_own oh_len hz.oo
                  obtain ⟨b, off, e2, -, h4⟩ := h3 (by omega)
                  have e5 := HFo.out
                  rw [HNo.out, e5] at e_
                  injection e_ with e6
                  refine ⟨b, off, e6.trans e2, ?_⟩
                  have h5 := h4 i xe hxi 0 (hdV xe) rfl
                  rw [h5, hdq]
                obtain ⟨b_, off, rfl, ce⟩ := hrow _ HJ.out
                simp only [Nat.mul_one, Nat.add_zero] at ce
                have HROW := hide hrow
                have HXM := hide hxm
                have HDQ := hide hdq
                have hdec : decide ((i : Int) < (No : Int)) = true := by rw [decide_eq_true_eq]; omega
                clear hxe hxi hxm hdq hrow hil
                go_wp2
                go_loopw [14] (fun kv wr => ∃ k : Nat, k ≤ nh ∧ kv = .int .i64 (k : Int) ∧ Hid (ScI X E bc vc vd x B O U bc bd wr)) (fun kv _ => nh - (Go.RowKit.intOf kv).toNat)
                case atStart => exact ⟨0, Nat.zero_le _, rfl, HJ⟩
                case round =>
                  clear HJ cf ce
                  obtain ⟨k, hk, rfl, HJ⟩ := hrel
                  have cf : wr.cell? ⟨bc, 15, none⟩ = some (.slice (some ⟨b_, off, none⟩) No co) := (HJ.out.kc.cell 15).trans (congrArg some HFo.out)
                  obtain ⟨b2, off2, e2, ce⟩ := HROW.out _ HJ.out
                  injection e2 with e2
                  injection e2 with e2 e3
                  subst e2 e3
                  simp only [Nat.mul_one, Nat.add_zero] at ce
                  by_cases hkt : k < nh
                  · have hro := HJ.out.oi _ HXM.out
                    rw [HDQ.out] at hro
                    obtain ⟨g, cur, hA, h1, h2, h3, h4⟩ := hro.at (Nat.lt_of_le_of_lt (Nat.zero_le k) hkt)
                    have hA : Ah = some ⟨g, 0, none⟩ := hA
                    subst hA
                    have h4 : nh ≤ cur.size := h4
                    obtain ⟨u_, ck⟩ := cell_some h3 (Nat.lt_of_lt_of_le hkt h4)
                    have fk := unfrozen_of_block h3 k
                    have HS := hide (HJ.out.set h3 (.inl rfl) h1 (Nat.lt_trans h2 HEB.out) k (.int .i64 66))
                    clear hro h1 h2 h3 h4 HJ
                    go_wp2
                    go_roundw
                    case rel => exact ⟨k + 1, by omega, by go_num, HS⟩
                    case measure => simp [Go.RowKit.intOf]; omega
                  · obtain rfl : nh = k := by omega
                    go_wp2
                    go_roundw
                    case rel => exact ⟨i + 1, by omega, by go_num, HJ⟩
                    case measure => simp [Go.RowKit.intOf]; omega
              · obtain rfl : No = i := by omega
                skip
                skip
                have HKSr := hide (HKS0.out.below HJ.out.bl)
                have HKDr := hide HJ.out.kd
                have HRSr := hide (HRS0.out.below HJ.out.bl)
                have HRDr := hide (copy_read HRSr.out HPD.out HJ.out.d)
                have HBr := hide HJ.out.bl
                obtain ⟨wp, rfl⟩ : ∃ W, W = wr := ⟨_, rfl⟩
                go_wp2_with (first
                    | (refine wpList_load_bcg rfl 66 (.tmp 6) rfl Bo rfl (stL x vx) HKSr.out _ Tryz.underlying66 rfl (by kernel_rfl) ?_)
                    | (refine wpList_load_bcg rfl 66 (.tmp 8) rfl bd rfl (stL x vd) HKDr.out _ Tryz.underlying66 rfl (by kernel_rfl) ?_)
                    | (go_at_call 24; (with_reducible refine (Same_q x x vx vd _ true HRSr.out HRDr.out HXX.out).mono ?_); rintro e_ wz ⟨rfl, hb⟩; have HBz := hide hb; clear hb))
                go_ret
                exact ⟨rfl, HBX0.out.trans ((HBr.out.trans (HBz.out.mono HBr.out.size)).mono HBX0.out.size)⟩
end Go.Proofs.YtdmbcjckgfjcaaaGreatDoor
