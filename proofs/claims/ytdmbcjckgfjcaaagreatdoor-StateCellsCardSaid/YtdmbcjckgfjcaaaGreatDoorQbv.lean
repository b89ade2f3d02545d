/- Layer state: the law StateCells. Written by tools/genstatelaw2.py. -/
import Derived.Test.YtdmbcjckgfjcaaaGreatDoorQbt
import Derived.Test.YtdmbcjckgfjcaaaGreatDoorQam
namespace Go.Proofs.YtdmbcjckgfjcaaaGreatDoor
open Go.RowKit Go.Joins Go.Shelf Go.Maps
theorem zeroIS (u : World) : (zeroValue 3).run Tryz.prog u = .ok (.int .i64 0) u := by kernel_rfl
theorem metC_none {m : Nat} {x : Int} (h : x = (m : Int)) : ((metC m x : Nat) : Int) = 0 := by subst h; rw [metC_next]; rfl
theorem metC_one {m i : Nat} (h : i < m) : ((metC m (i : Int) : Nat) : Int) = 1 := by rw [metC_at h]; rfl
/-- what was met, up to m: the map in block B -/
def MetSa (w : World) (B m : Nat) : Prop := Tal Tryz.prog 3 w B m (metC m)
theorem MetSa.below {w w' : World} {B m : Nat} (h : MetSa w B m) (hb : Below w.heap.size w w') : MetSa w' B m := Tal.below h hb
theorem met_snoc {w : World} {B m : Nat} {x : Int} (hx : x = (m : Int)) (h : Tal Tryz.prog 3 w B (m + 1) (updI (metC m) x 1)) : MetSa w B (m + 1) := by
  subst hx; unfold MetSa; rw [← metC_put]; exact h
theorem kw_small {x : Int} (h : 0 ≤ x ∧ x ≤ 1000000) : Kw x := by unfold Kw; omega
set_option maxRecDepth 100000 in
set_option maxHeartbeats 16000000 in
theorem cells_walk (v : Value) (l : List Int) (w : World) (hl : Bytes w v l) (hr : ∀ b ∈ l, 0 ≤ b ∧ b ≤ 255) (hE : EnvT w) :
    Calls Tryz.prog 7 #[v] w fun x w' => x = .returned (.bool true) ∧ Below w.heap.size w w' := by
  have hmm := @run_makeMap Tryz.prog
  have HL := hide hl
  have HR := hide hr
  have HE := hide hE
  have HB := hide (show Below w.heap.size w w from Below.refl _ _)
  obtain ⟨Av, cv, rfl, -, -, -⟩ := id hl
  obtain ⟨p, hp⟩ : ∃ p, madeG (byteG (l.take 90)) = p := ⟨_, rfl⟩
  have hq := madeQ (byteG (l.take 90))
  rw [hp] at hq
  obtain ⟨q, hn⟩ : ∃ q, sNew p = q := ⟨_, rfl⟩
  have HP := hide hp
  have HQ := hide hq
  have HN := hide hn
  clear hl hr hE hp hq hn
  go_enter Tryz.func7, Tryz.ntmps7
  go_upto_region 4 with (first
    | (go_at_call 8; (with_reducible refine (examples_anySa _ HE.out).mono ?_); rintro e_ wa ⟨rfl, hb⟩; replace HL := hide (HL.out.below hb); replace HE := hide (HE.out.below hb); replace HB := hide (bcall HB.out hb); clear hb))
  go_upto_region 5 with (first
    | (go_at_call 9; (with_reducible refine (made_st _ l _ HL.out HR.out p HP.out).mono ?_); rintro e_ wb ⟨ob, rg, pg, rfl, hPR, hb⟩; replace HL := hide (HL.out.below hb); replace HE := hide (HE.out.below hb); replace HB := hide (bcall HB.out hb); have HPR := hide hPR; clear hPR; clear hb)
    | (refine wpList_store_row rfl 30 (.tmp 4) (.tmp 15) rfl wb.heap.size rfl (plLSa p (hdV ob) (hdV rg) (hdV pg) (hdV hd0)).toArray rfl _ _ (heap_alloc_new wb _) (by kernel_rfl) rfl (plA_one _ _ _ _ _) ?_; rw [setRow_alloc]))
  obtain ⟨wc, e_, k_, hb, -⟩ := box_newL wb (plLSa p (hdV ob) (hdV rg) (hdV pg) (hdV hd0)) 30
  rw [e_]
  clear e_
  replace HL := hide (HL.out.below hb)
  replace HE := hide (HE.out.below hb)
  replace HPR := hide (HPR.out.below hb)
  replace HB := hide (bcall HB.out hb)
  have HKP := hide k_
  clear k_ hb
  go_upto_region 6 with (first
    | (refine wpList_load_row rfl 30 (.tmp 4) rfl wb.heap.size rfl (plLSa p (hdV ob) (hdV rg) (hdV pg) (hdV hd0)).toArray _ _ _ HKP.out Tryz.underlying30 rfl (by kernel_rfl) ?_)
    | (go_at_call 13; (with_reducible refine (New_q p q ob rg pg HN.out HQ.out.ro _ HPR.out HE.out).mono ?_); rintro e_ wd ⟨vs, rfl, hR, hb⟩; replace HL := hide (HL.out.below hb); replace HE := hide (HE.out.below hb); replace HPR := hide (HPR.out.below hb); replace HKP := hide (HKP.out.below hb); replace HB := hide (bcall HB.out hb); have HRS := hide hR; clear hR; clear hb)
    | (refine wpList_store_row rfl 66 (.tmp 5) (.tmp 17) rfl wd.heap.size rfl (stL q vs).toArray rfl _ _ (heap_alloc_new wd _) (by kernel_rfl) rfl (stA_one q vs) ?_; rw [setRow_alloc]))
  obtain ⟨we, e_, k_, hb, -⟩ := box_newL wd (stL q vs) 66
  rw [e_]
  clear e_
  replace HL := hide (HL.out.below hb)
  replace HE := hide (HE.out.below hb)
  replace HPR := hide (HPR.out.below hb)
  replace HKP := hide (HKP.out.below hb)
  replace HRS := hide (HRS.out.below hb)
  replace HB := hide (bcall HB.out hb)
  have HKS := hide k_
  clear k_ hb
  have hrng := HQ.out.rt.rng
  unfold pRng at hrng
  have hwk3 := HQ.out.wk
  have hbins := bins_rng HQ.out.rt
  obtain ⟨Wn, hWn⟩ : ∃ W, p.wk.toNat = W := ⟨_, rfl⟩
  obtain ⟨C2, hC2⟩ : ∃ C, p.cp.toNat + 2 = C := ⟨_, rfl⟩
  obtain ⟨NB, hNB⟩ : ∃ B, binsC p = B := ⟨_, rfl⟩
  obtain ⟨T, hTT⟩ : ∃ T, Wn * C2 = T := ⟨_, rfl⟩
  have hT1 : T ≤ 100 := by rw [← hTT]; exact Nat.le_trans (Nat.mul_le_mul (show Wn ≤ 3 by omega) (show C2 ≤ 18 by omega)) (by decide)
  have hD : ∀ k : Nat, k ≤ Wn → dequeF p.cp ((k : Int) + 1) = ((k * C2 : Nat) : Int) := fun k hk => by have h := deque_at HQ.out.rt (w := k) (by omega); unfold topM at h; rw [hC2] at h; exact h
  have hF : fullF p.cp p.wk = (T : Int) := by rw [full_at HQ.out.rt]; unfold topM; rw [hC2, hWn, hTT]
  have hM : emptyF p.cp p.wk = (T : Int) + 1 := by rw [empty_at HQ.out.rt]; unfold topM; rw [hC2, hWn, hTT]; rfl
  have hBr := bins_r HQ.out.rt
  rw [hNB] at hBr hbins
  have hK : q.m.length = T + 2 + NB := by rw [← HN.out, new_right (pRight_iff.2 HQ.out.rt)]; exact ((newM_all (cells_new HQ.out.rt HQ.out.ro)).1).trans (by unfold topM; rw [hC2, hWn, hTT, hNB])
  have hWi : p.wk = (Wn : Int) := by omega
  have hCi : p.cp + 2 = (C2 : Int) := by omega
  have hC1 : C2 ≤ 18 ∧ 3 ≤ C2 := by omega
  have hW3 : Wn ≤ 3 := by omega
  have hN1 : NB ≤ 96 := by omega
  obtain ⟨Am, cm, hmv, -, -, -⟩ := id HRS.out.m
  rw [hK] at hmv
  have HD := hide hD
  have HFu := hide hF
  have HEm := hide hM
  have HBr := hide hBr
  have HTT := hide hTT
  have HMV := hide hmv
  have HWI := hide hWi
  have HCI := hide hCi
  clear hrng hbins hWn hC2 hNB hTT hD hF hM hBr hK hmv hWi hCi hwk3
  have HT0 := hide (show MetSa (we.alloc (.map #[] 0)) we.heap.size 0 from by unfold MetSa; rw [metC_zero]; exact tal_new we)
  have hB0 : Below we.heap.size we (we.alloc (.map #[] 0)) := (Below.refl _ _).alloc (Nat.le_refl _) _
  have HB0 := hide hB0
  clear hB0
  go_wp2
  go_loopw [7] (fun iv wr => ∃ i : Nat, i ≤ Wn ∧ iv = .int .i64 ((i : Int) + 1) ∧ Below we.heap.size we wr ∧ Hid (MetSa wr we.heap.size (i * C2))) (fun iv _ => Wn + 1 - (Go.RowKit.intOf iv).toNat)
  case atStart => exact ⟨0, Nat.zero_le _, rfl, HB0.out, by rw [Nat.zero_mul]; exact HT0⟩
  case round =>
    obtain ⟨i, hi, rfl, hb, HT_⟩ := hrel
    have c0 : wr.cell? ⟨wb.heap.size, 0, none⟩ = some (.int .i64 (Wn : Int)) := by rw [← HWI.out]; exact (HKP.out.below hb).cell 0
    by_cases hit : i < Wn
    · obtain ⟨M, hMM⟩ : ∃ M, i * C2 = M := ⟨_, rfl⟩
      have hDi := HD.out i hi
      have hMT : M + C2 ≤ T := by rw [← hMM, ← HTT.out, ← Nat.succ_mul]; exact Nat.mul_le_mul_right _ hit
      have hnx : (i + 1) * C2 = M + C2 := by rw [Nat.succ_mul, hMM]
      rw [hMM] at hDi HT_
      have HDi := hide hDi
      have HNX := hide hnx
      clear hDi hnx hMM
      have hdec : decide ((i : Int) + 1 ≤ (Wn : Int)) = true := by rw [decide_eq_true_eq]; omega
      go_wp2
      go_loopw [8] (fun kv ws => ∃ k : Nat, k ≤ C2 ∧ kv = .int .i64 (k : Int) ∧ Below we.heap.size we ws ∧ Hid (MetSa ws we.heap.size (M + k))) (fun kv _ => C2 - (Go.RowKit.intOf kv).toNat)
      case atStart => exact ⟨0, Nat.zero_le _, rfl, hb, HT_⟩
      case round =>
        obtain ⟨k, hk, rfl, hb, HT_⟩ := hrel
        have c2 : wr.cell? ⟨wb.heap.size, 2, none⟩ = some (.int .i64 p.cp) := (HKP.out.below hb).cell 2
        have hci := HCI.out
        by_cases hkt : k < C2
        · have HBN := hide hb
          have HT := HT_
          have hzz := hb.size
          clear hb
          have hx : Kw ((M : Int) + (k : Int)) := kw_small (by omega)
          go_wp2_with (first
            | (refine wpList_load_row rfl 30 (.tmp 4) rfl wb.heap.size rfl (plLSa p (hdV ob) (hdV rg) (hdV pg) (hdV hd0)).toArray _ _ _ (hide (HKP.out.below HBN.out)).out Tryz.underlying30 rfl (by kernel_rfl) ?_)
            | (go_at_call 15; (with_reducible refine (Deque_r p ob rg pg hd0 ((i : Int) + 1) _ (M : Int) HDi.out).mono ?_); rintro e_ wt ⟨rfl, hb⟩; replace HBN := hide (bcall HBN.out hb); replace HT := hide (HT.out.below hb); clear hb)
            | (at_lookup; refine wpList_tal_lookv (t := 3) rfl _ _ rfl Tryz.underlying3 Tryz.underlying96 zeroIS rfl ((M : Int) + (k : Int)) rfl hx HT.out 0 (metC_none (by omega)) ?_)
            | (at_mapUpdate; refine wpList_tal_store (t := 3) rfl _ _ _ rfl Tryz.underlying3 Tryz.underlying96 rfl ((M : Int) + (k : Int)) rfl hx 1 _ rfl (by rfl) (by omega) (by unfold maxLen; omega) HT.out ?_; intro w4 hT4 hT4' hg4))
          go_roundw
          case rel => exact ⟨k + 1, by omega, by go_num, (HBN.out.grown hg4 HBN.out.size (fun g hg => by injection hg with hg; omega)), hide (met_snoc (m := M + k) (by omega) hT4)⟩
          case measure => simp [Go.RowKit.intOf]; omega
        · obtain rfl : C2 = k := by omega
          go_wp2
          go_roundw
          case rel => exact ⟨i + 1, by omega, by go_num, hb, by rw [HNX.out]; exact HT_⟩
          case measure => simp [Go.RowKit.intOf]; omega
    · obtain rfl : Wn = i := by omega
      rw [HTT.out] at HT_
      have HBN := hide hb
      have HT := HT_
      have hzz := hb.size
      clear hb HT_
      have hx0 : Kw (T : Int) := kw_small (by omega)
      have hx1 : Kw ((T : Int) + 1) := kw_small (by omega)
      go_upto_region 15 with (first
        | (refine wpList_load_row rfl 30 (.tmp 4) rfl wb.heap.size rfl (plLSa p (hdV ob) (hdV rg) (hdV pg) (hdV hd0)).toArray _ _ _ (hide (HKP.out.below HBN.out)).out Tryz.underlying30 rfl (by kernel_rfl) ?_)
        | (go_at_call 17; (with_reducible refine (Full_r p ob rg pg hd0 _ (T : Int) HFu.out).mono ?_); rintro e_ wt ⟨rfl, hb⟩; replace HBN := hide (bcall HBN.out hb); replace HT := hide (HT.out.below hb); clear hb)
        | (at_lookup; refine wpList_tal_lookv (t := 3) rfl _ _ rfl Tryz.underlying3 Tryz.underlying96 zeroIS rfl (T : Int) rfl hx0 HT.out 0 (metC_none rfl) ?_)
        | (at_mapUpdate; refine wpList_tal_store (t := 3) rfl _ _ _ rfl Tryz.underlying3 Tryz.underlying96 rfl (T : Int) rfl hx0 1 _ rfl (by rfl) (by omega) (by unfold maxLen; omega) HT.out ?_; intro w4 hT4 hT4' hg4))
      replace HT := hide (met_snoc (m := T) rfl hT4)
      replace HBN := hide (HBN.out.grown hg4 HBN.out.size (fun g hg => by injection hg with hg; omega))
      obtain ⟨w5, rfl⟩ : ∃ W, W = w4 := ⟨_, rfl⟩
      have hzz := HBN.out.size
      clear hT4 hg4 c0
      go_upto_region 16 with (first
        | (refine wpList_load_row rfl 30 (.tmp 4) rfl wb.heap.size rfl (plLSa p (hdV ob) (hdV rg) (hdV pg) (hdV hd0)).toArray _ _ _ (hide (HKP.out.below HBN.out)).out Tryz.underlying30 rfl (by kernel_rfl) ?_)
        | (go_at_call 19; (with_reducible refine (Empty_r p ob rg pg hd0 _ ((T : Int) + 1) HEm.out).mono ?_); rintro e_ wt ⟨rfl, hb⟩; replace HBN := hide (bcall HBN.out hb); replace HT := hide (HT.out.below hb); clear hb)
        | (at_lookup; refine wpList_tal_lookv (t := 3) rfl _ _ rfl Tryz.underlying3 Tryz.underlying96 zeroIS rfl ((T : Int) + 1) rfl hx1 HT.out 0 (metC_none (by omega)) ?_)
        | (at_mapUpdate; refine wpList_tal_store (t := 3) rfl _ _ _ rfl Tryz.underlying3 Tryz.underlying96 rfl ((T : Int) + 1) rfl hx1 1 _ rfl (by rfl) (by omega) (by unfold maxLen; omega) HT.out ?_; intro w4 hT4 hT4' hg4))
      replace HT := hide (met_snoc (m := T + 1) (by omega) hT4)
      replace HBN := hide (HBN.out.grown hg4 HBN.out.size (fun g hg => by injection hg with hg; omega))
      obtain ⟨w6, rfl⟩ : ∃ W, W = w4 := ⟨_, rfl⟩
      clear hT4 hg4
      go_wp2
      go_loopw [9] (fun iv wr => ∃ b : Nat, b ≤ NB ∧ iv = .int .i64 ((b : Int) + 1) ∧ Below we.heap.size we wr ∧ Hid (MetSa wr we.heap.size (T + 2 + b))) (fun iv _ => NB + 1 - (Go.RowKit.intOf iv).toNat)
      case atStart => exact ⟨0, Nat.zero_le _, rfl, HBN.out, HT⟩
      case round =>
        clear HBN HT
        obtain ⟨b, hbb, rfl, hb, HT_⟩ := hrel
        have HBN := hide hb
        have HT := HT_
        have hzz := hb.size
        clear hb HT_
        by_cases hit : b < NB
        · have hx2 : Kw ((T : Int) + 1 + ((b : Int) + 1)) := kw_small (by omega)
          go_wp2_with (first
            | (refine wpList_load_row rfl 30 (.tmp 4) rfl wb.heap.size rfl (plLSa p (hdV ob) (hdV rg) (hdV pg) (hdV hd0)).toArray _ _ _ (hide (HKP.out.below HBN.out)).out Tryz.underlying30 rfl (by kernel_rfl) ?_)
            | (go_at_call 32; (with_reducible refine (Bins_r p ob rg pg hd0 _ (NB : Int) HBr.out).mono ?_); rintro e_ wt ⟨rfl, hb⟩; replace HBN := hide (bcall HBN.out hb); replace HT := hide (HT.out.below hb); clear hb)
            | (go_at_call 21; (with_reducible refine (Next_r p ob rg pg hd0 _ ((T : Int) + 1) HEm.out).mono ?_); rintro e_ wu ⟨rfl, hb⟩; replace HBN := hide (bcall HBN.out hb); replace HT := hide (HT.out.below hb); clear hb)
            | (at_lookup; refine wpList_tal_lookv (t := 3) rfl _ _ rfl Tryz.underlying3 Tryz.underlying96 zeroIS rfl ((T : Int) + 1 + ((b : Int) + 1)) rfl hx2 HT.out 0 (metC_none (by omega)) ?_)
            | (at_mapUpdate; refine wpList_tal_store (t := 3) rfl _ _ _ rfl Tryz.underlying3 Tryz.underlying96 rfl ((T : Int) + 1 + ((b : Int) + 1)) rfl hx2 1 _ rfl (by rfl) (by omega) (by unfold maxLen; omega) HT.out ?_; intro w4 hT4 hT4' hg4))
          have hzz := HBN.out.size
          go_roundw
          case rel => exact ⟨b + 1, by omega, by go_num, (HBN.out.grown hg4 HBN.out.size (fun g hg => by injection hg with hg; omega)), hide (met_snoc (m := T + 2 + b) (by omega) hT4)⟩
          case measure => simp [Go.RowKit.intOf]; omega
        · obtain rfl : NB = b := by omega
          go_upto_region 20 with (first
            | (refine wpList_load_row rfl 30 (.tmp 4) rfl wb.heap.size rfl (plLSa p (hdV ob) (hdV rg) (hdV pg) (hdV hd0)).toArray _ _ _ (hide (HKP.out.below HBN.out)).out Tryz.underlying30 rfl (by kernel_rfl) ?_)
            | (go_at_call 32; (with_reducible refine (Bins_r p ob rg pg hd0 _ (NB : Int) HBr.out).mono ?_); rintro e_ wt ⟨rfl, hb⟩; replace HBN := hide (bcall HBN.out hb); replace HT := hide (HT.out.below hb); clear hb))
          obtain ⟨w7, rfl⟩ : ∃ W, W = wt := ⟨_, rfl⟩
          have c16 : w7.cell? ⟨wd.heap.size, 16, none⟩ = some (.slice Am (T + 2 + NB) cm) := ((HKS.out.below HBN.out).cell 16).trans (congrArg some HMV.out)
          obtain ⟨K, hKK⟩ : ∃ K, T + 2 + NB = K := ⟨_, rfl⟩
          rw [hKK] at c16 HT
          obtain ⟨D, hD1, hD2⟩ := tal_size HT.out (by omega) Tryz.underlying3
          go_wp2
          go_loopw [10] (fun iv wr => ∃ i : Nat, i ≤ K ∧ iv = .int .i64 (i : Int) ∧ wr = w7) (fun iv _ => K - (Go.RowKit.intOf iv).toNat)
          case atStart => exact ⟨0, Nat.zero_le _, rfl, (by first | trivial | rfl)⟩
          case round =>
            obtain ⟨i, hi, rfl, rfl⟩ := hrel
            by_cases hit : i < K
            · have hx3 : Kw (i : Int) := kw_small (by omega)
              go_wp2_with (at_lookup; refine wpList_tal_lookv (t := 3) rfl _ _ rfl Tryz.underlying3 Tryz.underlying96 zeroIS rfl (i : Int) rfl hx3 HT.out 1 (metC_one hit) ?_)
              go_roundw
              case rel => exact ⟨i + 1, by omega, by go_num, (by first | trivial | rfl)⟩
              case measure => simp [Go.RowKit.intOf]; omega
            · obtain rfl : K = i := by omega
              have HD1 := hide hD1
              clear hD1
              go_wp2_with (refine wpList_len_own_g (D := D) rfl _ _ rfl Tryz.underlying96 rfl HD1.out ?_; rw [hD2])
              go_ret
              exact ⟨rfl, HB.out.trans (HBN.out.mono HB.out.size)⟩
end Go.Proofs.YtdmbcjckgfjcaaaGreatDoor
