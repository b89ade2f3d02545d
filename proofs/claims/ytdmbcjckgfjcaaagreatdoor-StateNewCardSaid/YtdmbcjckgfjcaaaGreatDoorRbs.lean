import Derived.Test.YtdmbcjckgfjcaaaGreatDoorRam
import Derived.Test.YtdmbcjckgfjcaaaGreatDoorRbr
import Derived.Test.YtdmbcjckgfjcaaaGreatDoorRbc
/- Layer state: the cells at the start. Written by tools/genstateb.py. -/
namespace Go.Proofs.YtdmbcjckgfjcaaaGreatDoor
open Go.RowKit Go.Joins Go.Shelf
theorem uc_one (p : Int) : ∀ u ∈ uc p, u.oneCell' = true := fun u hu => by simp [uc] at hu; subst hu; rfl
theorem Bins_r (q : Pq) (ob rg pg pk : Hd) (w : World) (r : Int) (hr : wrap64 (wrap64 (q.mo + q.wk) + q.mu) = r) :
    Calls Tryz.prog 32 #[.agg (plLSa q (hdV ob) (hdV rg) (hdV pg) (hdV pk)).toArray] w fun e w' => e = .returned (.int .i64 r) ∧ Below w.heap.size w w' := by
  subst hr; exact pBins_any q.wk q.mu q.cp q.bf q.bn q.mo q.pr q.li q.sl (hdV ob) q.ro (hdV rg) (hdV pg) (hdV pk) w
theorem bins_r {q : Pq} (h : PRt q) : wrap64 (wrap64 (q.mo + q.wk) + q.mu) = ((binsC q : Nat) : Int) := by
  have h1 := h.rng; have h2 := h.most; have h3 := (bins_rng h).2.2
  unfold pRng at h1
  unfold pBins at h3
  rw [s64_w, s64_w, s64_small (x := q.mo + q.wk) (by omega) (by omega), s64_small (by omega) (by omega)]
  omega
theorem Bc.grow3 {t : TypeId} {w w' : World} {B n : Nat} {l : List Value} (h : Bc t w B l) (hb : Below n w w') (hB : B < n) : Bc t w' B l := (hb.block B hB).trans h
theorem top_own {cp : Nat} (w : World) : w.ownsRow w.heap.size 25 1 (.slice none 0 0) (topM 0 cp) ((deqsF cp 0).flatMap uc) := by
  have : topM 0 cp = 0 := by unfold topM; omega
  rw [this]; exact World.ownsRow_nil _ _ _ _
theorem deqs_snoc (cp : Nat) (k : Nat) : (deqsF cp (k + 1)).flatMap uc = (deqsF cp k).flatMap uc ++ (cellsF cp).flatMap uc := by rw [deqsF, List.flatMap_append]
/-- cells in a block from b on -/
def CellsN (b : Nat) (w : World) (v : Value) (l : List Int) : Prop := Cells w v l ∧ ∀ y, v.ownBlock = some y → b ≤ y
theorem CellsN.read {b : Nat} {w : World} {v : Value} {l : List Int} (h : CellsN b w v l) : Cells w v l := h.1
theorem CellsN.below {b : Nat} {w w' : World} {v : Value} {l : List Int} (h : CellsN b w v l) (hb : Below w.heap.size w w') : CellsN b w' v l := ⟨h.1.below hb, h.2⟩
theorem CellsN.le {b c : Nat} {w : World} {v : Value} {l : List Int} (h : CellsN b w v l) (hc : c ≤ b) : CellsN c w v l := ⟨h.1, fun y hy => Nat.le_trans hc (h.2 y hy)⟩
theorem CellsN.grown {b G : Nat} {w w' : World} {v : Value} {l : List Int} (h : CellsN b w v l) (hg : w.grownBy w' (some G)) (hG : G < b) : CellsN b w' v l := by
  refine ⟨?_, h.2⟩
  obtain ⟨A, c, rfl, h1, h2, h3⟩ := h.1
  refine ⟨A, c, rfl, h1, h2, fun hl => ?_⟩
  obtain ⟨g, off, rfl, hb, hc⟩ := h3 hl
  have hgb : b ≤ g := h.2 g rfl
  refine ⟨g, off, rfl, Nat.lt_of_lt_of_le hb hg.size, fun i p hp j u hu => ?_⟩
  rw [World.cell?_of_block (a := ⟨g, off + i * 1 + j, none⟩) (hg.block g hb (fun e => by injection e with e; omega))]
  exact hc i p hp j u hu
theorem lay_r (v lv : Value) (m l : List Int) (hd nx : Int) (w : World) (h : Cells w v m) (hl : Ints w lv l) (hbig : m.length ≤ 100000) (hbl : l.length ≤ 100000) (r : List Int) (hr : layFCh m hd nx l = r) (n : Nat) (hn : m.length = n) :
    Calls Tryz.prog 114 #[v, .int .i64 hd, .int .i64 nx, lv] w fun e w' => ∃ x : Hd, e = .returned (hdV x) ∧ CellsN w.heap.size w' (hdV x) r ∧ Below w.heap.size w w' := by
  refine (ch.lay_new v lv m l hd nx w h hl (by omega) (by omega) r hr n hn).mono ?_
  rintro e w' ⟨A, c, rfl, -, h1, h2, h3⟩
  exact ⟨(A, n, c), rfl, ⟨h1, h3⟩, h2⟩
set_option maxRecDepth 100000 in
set_option maxHeartbeats 8000000 in
theorem cells_any (q : Pq) (ob rg pg pk : Hd) (hq : PRt q) (f : Nat) (hf : f ≤ binsC q) (w : World) :
    Calls Tryz.prog 57 #[.agg (plLSa q (hdV ob) (hdV rg) (hdV pg) (hdV pk)).toArray, .int .i64 (f : Int)] w fun e w' => ∃ v : Hd, e = .returned (hdV v) ∧ CellsN w.heap.size w' (hdV v) (newM q.wk.toNat q.cp.toNat (binsC q) (binsN 0 f) (binsN f (binsC q - f))) ∧ Below w.heap.size w w' := by
  obtain ⟨w1, e1, k1, hb1, hs1⟩ := plan_box w q ob rg pg pk
  have hr := hq.rng
  unfold pRng at hr
  have hB := bins_rng hq
  have hFu := full_at hq
  have hEm := empty_at hq
  have hBi := bins_r hq
  have hnew := bins_new (W := q.wk.toNat) (cap := q.cp.toNat) (nb := binsC q) (f := f) (by omega) (by omega) (by omega) (by omega) hf
  obtain ⟨W, hW⟩ : ∃ W, q.wk.toNat = W := ⟨_, rfl⟩
  obtain ⟨cp, hcp⟩ : ∃ c, q.cp.toNat = c := ⟨_, rfl⟩
  obtain ⟨nb, hnb⟩ : ∃ n, binsC q = n := ⟨_, rfl⟩
  rw [hW, hcp] at hFu hEm
  rw [hW, hcp, hnb] at hnew ⊢
  rw [hnb] at hBi hB hf
  have hWz : q.wk = (W : Int) := by omega
  have hcz : q.cp = (cp : Int) := by omega
  have hT := top_le hnew
  have hlen := bare_len (W := W) (nb := nb) hnew.c1 hnew.c2
  have hcl := cells_len hnew.c1 hnew.c2
  have htop : ∀ k, topM (k + 1) cp = topM k cp + (cp + 2) := fun k => by unfold topM; rw [Nat.succ_mul]
  have hmono : ∀ k, k ≤ W → topM k cp ≤ topM W cp := fun k hk => by unfold topM; exact Nat.mul_le_mul_right _ hk
  have hcc : cp ≤ 64 := hnew.c2
  have hWW : W ≤ 16 := hnew.w
  obtain ⟨i0, hi, hz0, hz1, hz2⟩ := info_parts infoU
  have c0 : w1.cell? ⟨w.heap.size, 0, none⟩ = some (.int .i64 (W : Int)) := by rw [← hWz]; exact k1.cell 0
  have E1 := hide e1
  have HB1 := hide hb1
  have K1 := hide k1
  have HS1 := hide hs1
  have HFU := hide hFu
  have HEM := hide hEm
  have HBI := hide hBi
  have HNEW := hide hnew
  have HWZ := hide hWz
  have HCZ := hide hcz
  have HLEN := hide hlen
  have HCL := hide hcl
  have HTOP := hide htop
  have HMON := hide hmono
  have hB2 := hB.2.1
  have HF := hide hf
  have HI6 := hide (show I6 (cp : Int) by unfold I6; omega)
  have HDL := hide (deqs_len (cap := cp) hnew.c1 hnew.c2)
  clear e1 hb1 k1 hs1 hFu hEm hBi hnew hWz hcz hlen hcl htop hmono hq hr hB hW hcp hnb hf
  go_enter Tryz.func57, Tryz.ntmps57
  go_upto_region 1 with (fail)
  rw [E1.out]
  go_wp2
  go_loopw [5, 9] (fun vs i wr => ∃ k : Nat, k ≤ W ∧ i = .int .i64 (k : Int) ∧ Hid (wr.ownsRow w1.heap.size 25 1 vs (topM k cp) ((deqsF cp k).flatMap uc)) ∧ Below w1.heap.size w1 wr) (fun _ i _ => W - (Go.RowKit.intOf i).toNat)
  case atStart => exact ⟨0, Nat.zero_le _, by simp, hide (top_own w1), Below.refl _ _⟩
  case round =>
    obtain ⟨k, hk, rfl, HO, hb⟩ := hrel
    have hsz := hb.size
    by_cases hlt : k < W
    · have c2 : wr.cell? ⟨w.heap.size, 2, none⟩ = some (.int .i64 (cp : Int)) := by rw [← HCZ.out]; exact (K1.out.below hb).cell 2
      have ht1 := HTOP.out k
      have ht2 := HMON.out (k + 1) (by omega)
      have HT1 := hide ht1
      have HT2 := hide ht2
      clear ht1 ht2
      go_wp2_with fail
      (with_reducible refine (Cells_any _ HI6.out _ HCL.out _).mono ?_)
      rintro e w2 ⟨A2, c2_, rfl, -, hC, hb2⟩
      have HO2 := hide (own_below HO.out hb2)
      have HC := hide hC
      have HB2 := hide (bcall hb hb2)
      have hs2 := HB2.out.size
      clear hC hb2
      go_wp2_with (at_builtin; refine wpList_append_sl _ rfl _ _ 58 rfl w1.heap.size 25 i0 (.int .u64 0) 1 8 Tryz.underlying58 hi hz0 hz1 hz2 rfl (by decide) _ _ _ rfl HO2.out _ (cellsF cp) rfl HC.out uc_len uc_one (by have := HCL.out; have := HT1.out; have := HT2.out; unfold maxLen; omega) (by have := HCL.out; have := HT1.out; have := HT2.out; omega) hs2 ?_; intro v' w3 hown' hgrow)
      go_roundw
      case rel =>
        refine ⟨k + 1, by omega, by go_num, hide ?_, HB2.out.trans hgrow⟩
        rw [HTOP.out, deqs_snoc, ← HCL.out]
        exact hown'
      case measure => simp [Go.RowKit.intOf]; omega
    · have hkk : k = W := by omega
      subst hkk
      go_upto_region 6 with (fail)
      go_upto_region 7 with (first
        | (refine wpList_load_row rfl 30 (.tmp 2) rfl w.heap.size rfl (plLSa q (hdV ob) (hdV rg) (hdV pg) (hdV pk)).toArray _ _ _ (K1.out.below hb) Tryz.underlying30 rfl (by kernel_rfl) ?_)
        | (go_at_call 32; (with_reducible refine (Bins_r q ob rg pg pk _ _ HBI.out).mono ?_); rintro e w2 ⟨rfl, hb2⟩))
      have hs2 := hb2.size
      have HO2 := hide (own_below HO.out hb2)
      have K2 := hide ((K1.out.below hb).below hb2)
      have HB2 := hide (bcall HB1.out (bcall hb hb2))
      have HB3 := hide (Nat.le_trans hsz hs2)
      clear hb hb2 HO hs2
      have ez : wrap64 (2 + (nb : Int)) = 2 + (nb : Int) := by rw [s64_w, s64_small (by omega) (by omega)]
      go_upto_region 8 with (at_builtin; refine wpList_append_zeros _ rfl _ _ 58 3 rfl w1.heap.size 25 i0 (.int .u64 0) 8 Tryz.underlying58 Tryz.underlying3 hi hz0 hz1 hz2 rfl rfl _ _ _ rfl HO2.out (2 + nb) (by simp; rfl) (by omega) (by have := HMON.out k (Nat.le_refl _); unfold maxLen; omega) (by omega) HB3.out ?_; intro v3 w3 hown3 hb3)
      have hC3 : Cells w3 _ (bareM k cp nb) := Sl.of_own (l := bareM k cp nb) uc_len (by have hl := HLEN.out; rw [show (bareM k cp nb).length = topM k cp + (2 + nb) by omega, show (bareM k cp nb).flatMap uc = (deqsF cp k).flatMap uc ++ List.replicate (2 + nb) (Value.int .u64 0) by unfold bareM; rw [List.flatMap_append, uc_map (List.replicate _ _), List.map_replicate]]; exact hown3)
      obtain ⟨m3, rfl, -⟩ := hd_of hC3
      have HC3 := hide hC3
      have HBW := hide (HB2.out.trans (hb3.mono (by have := HB1.out.size; omega)))
      have K3 := hide ((K2.out.grow3 hb3 (by have := HS1.out; omega)))
      clear hown3 hb3 hC3
      obtain ⟨tz, htz⟩ : ∃ z : Int, ((topM k cp : Nat) : Int) = z := ⟨_, rfl⟩
      obtain ⟨nz, hnz⟩ : ∃ z : Int, ((topM k cp + 1 : Nat) : Int) = z := ⟨_, rfl⟩
      have HFU2 := hide (HFU.out.trans htz)
      have HEM2 := hide (HEM.out.trans hnz)
      have HTZ := hide htz
      have HNZ := hide hnz
      have hM1 : (layFCh (bareM k cp nb) tz nz (binsI 0 f)).length = topM k cp + (2 + nb) := by
        have hN := HNEW.out
        have := (lay_two (hd := topM k cp) (nb := topM k cp + 1) (N := nb) (by omega) (by omega) (by omega) (binsN 0 f) (bareM k cp nb) hN.fn hN.fr (by have := HLEN.out; omega)).2.2.1
        rw [HTZ.out, HNZ.out] at this
        exact this.trans (by have := HLEN.out; omega)
      have HM1 := hide hM1
      clear htz hnz hM1
      have HBC := hide (show Below w3.heap.size w3 w3.drew from ⟨rfl, rfl, rfl, Nat.le_refl _, fun _ _ => rfl⟩)
      refine wp_region_held_drew (S := fun w_ => Bc 30 w_ w.heap.size (plLSa q (hdV ob) (hdV rg) (hdV pg) (hdV pk))) (by kernel_rfl) ?_ (fun hHeld => ?_)
      · exact (by exact K3.out.below HBC.out)
      refine tk 0 (h := ?_)
      refine tk 1 (hy := fun w_ h_ => ex_loadk (m := [.int .i64 q.wk, .int .i64 q.mu, .int .i64 q.cp, .int .i64 q.bf, .int .i64 q.bn, .int .i64 q.mo, .int .i64 q.pr, .int .i64 q.li, .int .i64 q.sl, hdV ob, .int .u64 (q.ro : Int), hdV rg, hdV pg, hdV pk]) rfl rfl h_ Tryz.underlying30 rfl (by kernel_rfl) rfl) (h := ?_)
      refine tk 3 (hy := fun w_ h_ => ex_loadk (m := [.int .i64 q.wk, .int .i64 q.mu, .int .i64 q.cp, .int .i64 q.bf, .int .i64 q.bn, .int .i64 q.mo, .int .i64 q.pr, .int .i64 q.li, .int .i64 q.sl, hdV ob, .int .u64 (q.ro : Int), hdV rg, hdV pg, hdV pk]) rfl rfl h_ Tryz.underlying30 rfl (by kernel_rfl) rfl) (h := ?_)
      refine tk 5 (h := ?_)
      refine wpAnyH_ready (rs := [2]) (by kernel_rfl) (by simp) ?_
      refine AllReadyH.cons rfl (fun K hK => ?_) AllReadyH.nil
      go_simp
      go_at_call 17
      (with_reducible refine (Full_r q ob rg pg pk _ _ HFU2.out).mono ?_)
      rintro x w4 ⟨rfl, hb⟩
      have HBC := hide (bcall HBC.out hb)
      clear hb
      (try go_simp)
      refine hK.out _ _ (by exact K3.out.below HBC.out) (fun hHeld => ?_)
      clear hK
      (try simp only [Act.put, List.setIfInBounds_toArray, List.set_cons_zero, List.set_cons_succ])
      refine wpAnyH_ready (rs := [4]) (by kernel_rfl) (by simp) ?_
      refine AllReadyH.cons rfl (fun K hK => ?_) AllReadyH.nil
      go_simp
      go_at_call 21
      (with_reducible refine (Next_r q ob rg pg pk _ _ HEM2.out).mono ?_)
      rintro x w4 ⟨rfl, hb⟩
      have HBC := hide (bcall HBC.out hb)
      clear hb
      (try go_simp)
      refine hK.out _ _ (by exact K3.out.below HBC.out) (fun hHeld => ?_)
      clear hK
      (try simp only [Act.put, List.setIfInBounds_toArray, List.set_cons_zero, List.set_cons_succ])
      refine wpAnyH_ready (rs := [6]) (by kernel_rfl) (by simp) ?_
      refine AllReadyH.cons rfl (fun K hK => ?_) AllReadyH.nil
      go_simp
      go_at_call 115
      (with_reducible refine (from_any 0 f 1 (f : Int) (by omega) (by omega) (by have := HF.out; omega) _).mono ?_)
      rintro x w4 ⟨l8, rfl, hL8, hb⟩
      have HL8 := hide (own_below hL8 (Below.refl _ _))
      clear hL8
      have HBC := hide (bcall HBC.out hb)
      clear hb
      (try go_simp)
      refine hK.out _ _ (by exact K3.out.below HBC.out) (fun hHeld => ?_)
      clear hK
      (try simp only [Act.put, List.setIfInBounds_toArray, List.set_cons_zero, List.set_cons_succ])
      refine wpAnyH_ready (rs := [7]) (by kernel_rfl) (by simp) ?_
      refine AllReadyH.cons rfl (fun K hK => ?_) AllReadyH.nil
      go_simp
      go_at_call 114
      (with_reducible refine (lay_r _ _ (bareM k cp nb) (binsI 0 f) tz nz _ (HC3.out.below HBC.out) (Sl.of_own ic_len (by rw [binsI_len]; exact HL8.out)) (by have := HLEN.out; omega) (by have := HF.out; rw [binsI_len]; omega) _ rfl _ rfl).mono ?_)
      rintro x w4 ⟨m8, rfl, hM8, hb⟩
      have HM8 := hide hM8
      clear hM8
      have HBC := hide (bcall HBC.out hb)
      clear hb
      (try go_simp)
      refine hK.out _ _ (by exact K3.out.below HBC.out) (fun hHeld => ?_)
      clear hK
      (try simp only [Act.put, List.setIfInBounds_toArray, List.set_cons_zero, List.set_cons_succ])
      refine tk 8 (h := ?_)
      refine wpAnyH_done (by kernel_rfl) ?_ _
      have EF := hide (show IntKind.i64.wrap ((f : Int) + 1) = ((f + 1 : Nat) : Int) by have := HF.out; simp [IntKind.wrap, IntKind.bits, IntKind.signed]; omega)
      go_upto_region 9 with (fail)
      have HK9 := hide (K3.out.below HBC.out)
      have HBW9 := hide (HBW.out.trans (HBC.out.mono HBW.out.size))
      have HBC := hide (show Below w4.heap.size w4 w4.drew from ⟨rfl, rfl, rfl, Nat.le_refl _, fun _ _ => rfl⟩)
      refine wp_region_held_drew (S := fun w_ => Bc 30 w_ w.heap.size (plLSa q (hdV ob) (hdV rg) (hdV pg) (hdV pk))) (by kernel_rfl) ?_ (fun hHeld => ?_)
      · exact (by exact HK9.out.below HBC.out)
      refine tk 0 (h := ?_)
      refine tk 1 (hy := fun w_ h_ => ex_loadk (m := [.int .i64 q.wk, .int .i64 q.mu, .int .i64 q.cp, .int .i64 q.bf, .int .i64 q.bn, .int .i64 q.mo, .int .i64 q.pr, .int .i64 q.li, .int .i64 q.sl, hdV ob, .int .u64 (q.ro : Int), hdV rg, hdV pg, hdV pk]) rfl rfl h_ Tryz.underlying30 rfl (by kernel_rfl) rfl) (h := ?_)
      refine tk 3 (hy := fun w_ h_ => ex_loadk (m := [.int .i64 q.wk, .int .i64 q.mu, .int .i64 q.cp, .int .i64 q.bf, .int .i64 q.bn, .int .i64 q.mo, .int .i64 q.pr, .int .i64 q.li, .int .i64 q.sl, hdV ob, .int .u64 (q.ro : Int), hdV rg, hdV pg, hdV pk]) rfl rfl h_ Tryz.underlying30 rfl (by kernel_rfl) rfl) (h := ?_)
      refine tk 5 (h := ?_)
      refine tk 6 (h := ?_)
      refine tk 7 (h := ?_)
      refine wpAnyH_ready (rs := [2]) (by kernel_rfl) (by simp) ?_
      refine AllReadyH.cons rfl (fun K hK => ?_) AllReadyH.nil
      go_simp
      go_at_call 19
      (with_reducible refine (Empty_r q ob rg pg pk _ _ HEM2.out).mono ?_)
      rintro x w4 ⟨rfl, hb⟩
      have HBC := hide (bcall HBC.out hb)
      clear hb
      (try go_simp)
      refine hK.out _ _ (by exact HK9.out.below HBC.out) (fun hHeld => ?_)
      clear hK
      (try simp only [Act.put, List.setIfInBounds_toArray, List.set_cons_zero, List.set_cons_succ])
      refine wpAnyH_ready (rs := [4]) (by kernel_rfl) (by simp) ?_
      refine AllReadyH.cons rfl (fun K hK => ?_) AllReadyH.nil
      go_simp
      go_at_call 21
      (with_reducible refine (Next_r q ob rg pg pk _ _ HEM2.out).mono ?_)
      rintro x w4 ⟨rfl, hb⟩
      have HBC := hide (bcall HBC.out hb)
      clear hb
      (try go_simp)
      refine hK.out _ _ (by exact HK9.out.below HBC.out) (fun hHeld => ?_)
      clear hK
      (try simp only [Act.put, List.setIfInBounds_toArray, List.set_cons_zero, List.set_cons_succ])
      refine wpAnyH_ready (rs := [8]) (by kernel_rfl) (by simp) ?_
      refine AllReadyH.cons rfl (fun K hK => ?_) AllReadyH.nil
      go_simp
      go_at_call 115
      (with_reducible refine (from_any f (nb - f) _ (nb : Int) EF.out (by have := HF.out; omega) (by have := HF.out; omega) _).mono ?_)
      rintro x w4 ⟨l9, rfl, hL9, hb⟩
      have HL9 := hide hL9
      clear hL9
      have HBC := hide (bcall HBC.out hb)
      clear hb
      (try go_simp)
      refine hK.out _ _ (by exact HK9.out.below HBC.out) (fun hHeld => ?_)
      clear hK
      (try simp only [Act.put, List.setIfInBounds_toArray, List.set_cons_zero, List.set_cons_succ])
      refine wpAnyH_ready (rs := [9]) (by kernel_rfl) (by simp) ?_
      refine AllReadyH.cons rfl (fun K hK => ?_) AllReadyH.nil
      go_simp
      go_at_call 114
      (with_reducible refine (lay_r _ _ (layFCh (bareM k cp nb) tz nz (binsI 0 f)) (binsI f (nb - f)) nz nz _ (HM8.out.read.below HBC.out) (Sl.of_own ic_len (by rw [binsI_len]; exact HL9.out)) (by have := HM1.out; omega) (by rw [binsI_len]; omega) _ rfl _ rfl).mono ?_)
      rintro x w4 ⟨m9, rfl, hM9, hb⟩
      have HM9 := hide hM9
      have HS9 := hide (Nat.le_trans HBW9.out.size HBC.out.size)
      clear hM9
      have HBC := hide (bcall HBC.out hb)
      clear hb
      (try go_simp)
      refine hK.out _ _ (by exact HK9.out.below HBC.out) (fun hHeld => ?_)
      clear hK
      (try simp only [Act.put, List.setIfInBounds_toArray, List.set_cons_zero, List.set_cons_succ])
      refine tk 10 (h := ?_)
      refine wpAnyH_done (by kernel_rfl) ?_ _
      go_wp2
      go_ret
      exact ⟨_, rfl, by have h := HM9.out; rw [← HTZ.out, ← HNZ.out] at h; exact h.le HS9.out, HBW9.out.trans (HBC.out.mono HBW9.out.size)⟩
end Go.Proofs.YtdmbcjckgfjcaaaGreatDoor
/- Layer state: the machines at the start. Written by tools/genstatec.py. -/
namespace Go.Proofs.YtdmbcjckgfjcaaaGreatDoor
open Go.RowKit Go.Joins Go.Shelf
/-- element i of a row of the call's own stored, in a region that draws its order -/
theorem step_store_elem {α : Type} {enc : α → List Value} {size base g n c : Nat} {e : TypeId} {w : World} {es : List α} {P : Program} {ops : Array Oper} {op : Oper} {a : Act} {K : Act → World → Prop} {Q : Exit → Act → World → Prop} {E : Prop} (hgd : op.guard = none) (ty : TypeId) (x y : Operand) (ho : op.op = .store ty x y)
    (i : Nat) (o : Nat) (hx : a.eval x = .pointer (some ⟨g, o, none⟩)) (hoi : o = i * size) (p : α) (hy : a.eval y = .agg (enc p).toArray) (hin : (P.info? ty).map (·.size) = some size)
    (hz : ∀ p, (enc p).length = size) (h1 : ∀ u ∈ enc p, u.oneCell' = true) (hown : w.ownsRow base e size (.slice (some ⟨g, 0, none⟩) n c) n (es.flatMap enc)) (hi : i < es.length)
    (h : ∀ w', w'.ownsRow base e size (.slice (some ⟨g, 0, none⟩) n c) n ((es.set i p).flatMap enc) → w.grownBy w' (some g) → K (a.put op.dst undef) w') :
    if Region.wanted op (yielded ops a.tmps) = true then Oper.wp P op a w K Q else E := by
  rw [if_pos (show Region.wanted op (yielded ops a.tmps) = true by simp [Region.wanted, hgd])]
  exact wp_store_elem ty x y ho i o hx hoi p hy hin hz h1 hown hi h
/-- so many zero structs, laid -/
theorem made_rep {α : Type} {enc : α → List Value} {size : Nat} (hz : ∀ p, (enc p).length = size) (h0 : 0 < size) (x : α) (z : Array Value) (hx : z = (enc x).toArray) (n : Nat) : (madeCells z (n * size)).toList = (List.replicate n x).flatMap enc := by
  subst hx
  have hl : (List.replicate n x).length = n := List.length_replicate
  apply List.ext_getElem?
  intro i
  by_cases hi : i < n * size
  · have hq : i / size < n := by rw [Nat.div_lt_iff_lt_mul h0]; exact hi
    have hr : i % size < size := Nat.mod_lt _ h0
    have e1 := flatMap_get hz (List.replicate n x) (i / size) x (by rw [List.getElem?_replicate, if_pos hq]) (i % size) ((enc x)[i % size]'(by rw [hz]; exact hr)) (List.getElem?_eq_getElem _)
    have e2 : i / size * size + i % size = i := by rw [Nat.mul_comm]; exact Nat.div_add_mod i size
    rw [e2] at e1
    rw [e1]
    have hz' := hz x
    simp [madeCells, hi, hz', hr]
  · rw [List.getElem?_eq_none (by rw [Array.length_toList, size_madeCells]; omega), List.getElem?_eq_none (by rw [flatMap_len hz, hl]; omega)]
def zeroW : Wq := ⟨0, 0, 0, 0, 0, [], zeroMc, zeroCm, zeroG⟩
def zeroU : Uq := ⟨0, 0, 0, 0, 0, 0, 0, 0, [], [], [], zeroCm, zeroG⟩
abbrev hd0 : Hd := (none, 0, 0)
theorem own0Sa {w : World} {b : Nat} : w.ownsRow b 3 1 (hdV hd0) 0 [] := World.ownsRow_nil _ _ _ _
set_option maxRecDepth 100000 in
set_option maxHeartbeats 8000000 in
theorem workers_any (q : Pq) (ob rg pg pk : Hd) (hq : PRt q) (w : World) :
    Calls Tryz.prog 59 #[.agg (plLSa q (hdV ob) (hdV rg) (hdV pg) (hdV pk)).toArray] w fun e w' => ∃ v : Hd, e = .returned (hdV v) ∧ OwnWs w.heap.size w' (hdV v) ((List.range q.wk.toNat).map (workerF q)) ∧ Below w.heap.size w w' := by
  obtain ⟨w1, e1, k1, hb1, hs1⟩ := plan_box w q ob rg pg pk
  have hr := hq.rng
  unfold pRng at hr
  have hD : ∀ k : Nat, k ≤ q.wk.toNat → dequeF q.cp ((k + 1 : Nat) : Int) = ((topM k q.cp.toNat : Nat) : Int) := fun k hk => deque_at hq hk
  obtain ⟨W, hW⟩ : ∃ W, q.wk.toNat = W := ⟨_, rfl⟩
  rw [hW] at hD ⊢
  have hWW : W ≤ 16 := by omega
  obtain ⟨i0, hi, hz0, hz1, hz2⟩ := info_parts infoWk
  have c0 : w1.cell? ⟨w.heap.size, 0, none⟩ = some (.int .i64 (W : Int)) := by rw [show (W : Int) = q.wk by omega]; exact k1.cell 0
  have E1 := hide e1
  have HB1 := hide hb1
  have K1 := hide k1
  have HS1 := hide hs1
  have HD := hide hD
  clear e1 hb1 k1 hs1 hD hq hr hW
  go_enter Tryz.func59, Tryz.ntmps59
  go_upto_region 1 with (fail)
  rw [E1.out]
  go_upto_region 2 with (refine wpList_make_full _ rfl _ _ _ rfl w1.heap.size 102 i0 (.agg (wkE (zeroW, hd0)).toArray) 44 Tryz.underlying62 hi hz0 hz1 .i64 .i64 _ _ W rfl rfl (by omega) (by omega) (by rw [hz2]; omega) (by unfold maxLen; omega) (Nat.le_refl _) ?_; intro w2 hown hg)
  have HO0 := hide (show w2.ownsRow w1.heap.size 102 44 (.slice (some ⟨w1.heap.size, 0, none⟩) W W) W ((List.replicate W ((zeroW, hd0) : Wv)).flatMap wkE) by rw [← made_rep wkE_len (by decide) ((zeroW, hd0) : Wv) _ rfl W]; exact hown)
  have HB2 := hide (show Below w1.heap.size w1 w2 from ⟨hg.os, hg.tape, hg.output, hg.size, fun k hk => hg.block k hk (by simp)⟩)
  obtain ⟨G, hG⟩ : ∃ G, w1.heap.size = G := ⟨_, rfl⟩
  rw [hG] at HO0 HB2 ⊢
  have HG := hide hG
  clear hown hg hG
  go_wp2
  go_loopw [11] (fun i wr => ∃ k : Nat, k ≤ W ∧ i = .int .i64 (k : Int) ∧ Below G w1 wr ∧ Hid (EachP wkE 44 102 G (.slice (some ⟨G, 0, none⟩) W W) (List.replicate W ((zeroW, hd0) : Wv)) (fun (_ : World) (x : Wv) (y : Wq) => x = (y, hd0)) ((List.range W).map (workerF q)) wr k)) (fun i _ => W - (Go.RowKit.intOf i).toNat)
  case atStart => exact ⟨0, Nat.zero_le _, by simp, HB2.out, hide (EachP.start (by rw [List.length_replicate]; exact HO0.out))⟩
  case round =>
    obtain ⟨k, hk, rfl, hb, HP⟩ := hrel
    have hsz := hb.size
    by_cases hlt : k < W
    · have HDk := hide (show dequeF q.cp ((k : Int) + 1) = ((topM k q.cp.toNat : Nat) : Int) from HD.out k (by omega))
      obtain ⟨es, hl, ho, hr, hn⟩ := HP.out
      rw [List.length_replicate] at hl ho
      have HL := hide hl
      have HO := hide ho
      have HR := hide hr
      have HN := hide hn
      have HBK := hide hb
      have HKR := hide (K1.out.grow3 hb (by have := HS1.out; have := HG.out; omega))
      clear hl ho hr hn HP
      go_upto_region 6 with (fail)
      have HBC := hide (show Below wr.heap.size wr wr.drew from ⟨rfl, rfl, rfl, Nat.le_refl _, fun _ _ => rfl⟩)
      refine wp_region_held_drew (S := fun w_ => Bc 30 w_ w.heap.size (plLSa q (hdV ob) (hdV rg) (hdV pg) (hdV pk))) (by kernel_rfl) ?_ (fun hHeld => ?_)
      · exact (by exact HKR.out.below HBC.out)
      refine tk 0 (h := ?_)
      refine tk 1 (h := ?_)
      refine tk 2 (h := ?_)
      refine tk 3 (hy := fun w_ h_ => ex_loadk (m := [.int .i64 q.wk, .int .i64 q.mu, .int .i64 q.cp, .int .i64 q.bf, .int .i64 q.bn, .int .i64 q.mo, .int .i64 q.pr, .int .i64 q.li, .int .i64 q.sl, hdV ob, .int .u64 (q.ro : Int), hdV rg, hdV pg, hdV pk]) rfl rfl h_ Tryz.underlying30 rfl (by kernel_rfl) rfl) (h := ?_)
      refine tk 4 (h := ?_)
      refine tk 6 (h := ?_)
      refine tk 7 (hy := fun w_ h_ => ex_load1 rfl rfl h_ Tryz.underlying3 rfl rfl) (h := ?_)
      refine wpAnyH_ready (rs := [5]) (by kernel_rfl) (by simp) ?_
      refine AllReadyH.cons rfl (fun K hK => ?_) AllReadyH.nil
      go_simp
      go_at_call 15
      (with_reducible refine (Deque_r q ob rg pg pk _ _ _ HDk.out).mono ?_)
      rintro x w4 ⟨rfl, hb⟩
      have HBC := hide (bcall HBC.out hb)
      clear hb
      (try go_simp)
      refine hK.out _ _ (by exact HKR.out.below HBC.out) (fun hHeld => ?_)
      clear hK
      (try simp only [Act.put, List.setIfInBounds_toArray, List.set_cons_zero, List.set_cons_succ])
      refine wpAnyH_ready (rs := [8]) (by kernel_rfl) (by simp) ?_
      refine AllReadyH.cons rfl (fun K hK => ?_) AllReadyH.nil
      go_simp
      go_at_call 116
      (with_reducible refine (Start_any 2 ((topM k q.cp.toNat : Nat) : Int) q.cp 0 _).mono ?_)
      rintro x w4 ⟨rfl, hb⟩
      have HBC := hide (bcall HBC.out hb)
      clear hb
      (try go_simp)
      refine hK.out _ _ (by exact HKR.out.below HBC.out) (fun hHeld => ?_)
      clear hK
      (try simp only [Act.put, List.setIfInBounds_toArray, List.set_cons_zero, List.set_cons_succ])
      refine tk 9 (h := ?_)
      refine tk 10 (h := ?_)
      refine wpAnyH_ready (rs := [11]) (by kernel_rfl) (by simp) ?_
      refine AllReadyH.cons rfl (fun K hK => ?_) AllReadyH.nil
      refine step_store_elem (es := es) rfl 102 (.tmp 26) (.tmp 25) rfl k (k * 44) rfl rfl ((workerF q k, hd0) : Wv) rfl (by kernel_rfl) wkE_len (wkE_one _) (own_below HO.out HBC.out) (by rw [HL.out]; exact hlt) ?_
      intro w6 ho6 hg6
      have hGs : G ≤ wr.heap.size := by have := HG.out; omega
      have HB6 := hide ((hb.trans (HBC.out.mono hGs)).grown hg6 (Nat.le_trans hGs HBC.out.size) (fun g e => by injection e with e; omega))
      have HKX := hide (K1.out.grow3 HB6.out (by have := HS1.out; have := HG.out; omega))
      (try go_simp)
      refine hK.out _ _ HKX.out (fun hHeld => ?_)
      clear hK
      (try simp only [Act.put, List.setIfInBounds_toArray, List.set_cons_zero, List.set_cons_succ])
      refine wpAnyH_done (by kernel_rfl) ?_ _
      go_wp2
      go_roundw
      case rel =>
        refine ⟨k + 1, by omega, by go_num, HB6.out, hide ?_⟩
        exact EachP.next (by rw [HL.out, List.length_replicate]) (by rw [List.length_replicate]; exact hlt) (by rw [List.length_replicate]; exact ho6) HR.out HN.out (q0 := workerF q k) (by rw [List.getElem?_map, List.getElem?_range hlt]; rfl) rfl
      case measure => simp [Go.RowKit.intOf]; omega
    · have hkk : k = W := by omega
      subst hkk
      go_wp2
      obtain ⟨es, hl, ho, hr, hn⟩ := HP.out
      rw [List.length_replicate] at hl ho
      go_ret
      refine ⟨(some ⟨G, 0, none⟩, k, k), rfl, ⟨es, own_base (by rw [List.length_map, List.length_range]; exact ho) (by rw [← HG.out]; exact HB1.out.size), by rw [hl, List.length_map, List.length_range], fun i x y hx hy => ?_⟩, HB1.out.trans (hb.mono (by rw [← HG.out]; exact HB1.out.size))⟩
      have hik : i < k := by have := (List.getElem?_eq_some_iff.1 hx).1; omega
      obtain rfl := hn i x y hik hx hy
      refine ⟨rfl, ?_⟩
      rw [List.getElem?_map, List.getElem?_range hik] at hy
      cases hy
      exact own0Sa
end Go.Proofs.YtdmbcjckgfjcaaaGreatDoor
/- Layer state: the mutators at the start. Written by tools/genstated.py. -/
namespace Go.Proofs.YtdmbcjckgfjcaaaGreatDoor
open Go.RowKit Go.Joins Go.Shelf
set_option maxRecDepth 100000 in
set_option maxHeartbeats 8000000 in
theorem mutators_any (q : Pq) (ob rg pg pk : Hd) (hq : PRt q) (w : World) (hG : Grid w (hdV rg) q.rg) (hsm : ∀ l ∈ q.rg, l.length * 8 ≤ 140737488351232) :
    Calls Tryz.prog 60 #[.agg (plLSa q (hdV ob) (hdV rg) (hdV pg) (hdV pk)).toArray] w fun e w' => ∃ v : Hd, e = .returned (hdV v) ∧ OwnUs w.heap.size w' (hdV v) (q.rg.map mutatorF) ∧ Below w.heap.size w w' := by
  obtain ⟨w1, e1, k1, hb1, hs1⟩ := plan_box w q ob rg pg pk
  have hr := hq.rng
  unfold pRng at hr
  have hlen : q.rg.length = q.mu.toNat := by have := hq.lens.1; omega
  obtain ⟨W, hW⟩ : ∃ W, q.mu.toNat = W := ⟨_, rfl⟩
  rw [hW] at hlen
  have hWW : W ≤ 16 := by omega
  obtain ⟨i0, hi, hz0, hz1, hz2⟩ := info_parts infoUt
  have c1 : w1.cell? ⟨w.heap.size, 1, none⟩ = some (.int .i64 (W : Int)) := by rw [show (W : Int) = q.mu by omega]; exact k1.cell 1
  obtain ⟨rA, rn, rc⟩ := rg
  have hf := hG.form
  obtain ⟨A_, c_, e_, -⟩ := hf
  injection e_ with e_1 e_2 e_3
  subst e_2
  have E1 := hide e1
  have HB1 := hide hb1
  have K1 := hide k1
  have HS1 := hide hs1
  have HLN := hide hlen
  have HG := hide (hG.below hb1)
  have HSM := hide hsm
  clear e1 hb1 k1 hs1 hq hr hW hlen hG hsm e_1 e_3
  go_enter Tryz.func60, Tryz.ntmps60
  go_upto_region 1 with (fail)
  rw [E1.out]
  go_upto_region 2 with (refine wpList_make_full _ rfl _ _ _ rfl w1.heap.size 93 i0 (.agg (utE (zeroU, hd0, hd0, hd0)).toArray) 41 Tryz.underlying63 hi hz0 hz1 .i64 .i64 _ _ W rfl rfl (by omega) (by omega) (by rw [hz2]; omega) (by unfold maxLen; omega) (Nat.le_refl _) ?_; intro w2 hown hg)
  have HO0 := hide (show w2.ownsRow w1.heap.size 93 41 (.slice (some ⟨w1.heap.size, 0, none⟩) W W) W ((List.replicate W ((zeroU, hd0, hd0, hd0) : Uv)).flatMap utE) by rw [← made_rep utE_len (by decide) ((zeroU, hd0, hd0, hd0) : Uv) _ rfl W]; exact hown)
  have HB2 := hide (show Below w1.heap.size w1 w2 from ⟨hg.os, hg.tape, hg.output, hg.size, fun k hk => hg.block k hk (by simp)⟩)
  have HGW := hide (show w1.heap.size < w2.heap.size from (hown.lt w1.heap.size rfl).2)
  have c11 : w2.cell? ⟨w.heap.size, 11, none⟩ = some (.slice rA q.rg.length rc) := (K1.out.grow3 HB2.out (by have := HS1.out; omega)).cell 11
  obtain ⟨G, hG⟩ : ∃ G, w1.heap.size = G := ⟨_, rfl⟩
  rw [hG] at HO0 HGW ⊢
  have HG_ := hide hG
  clear hown hg hG
  go_wp2
  go_loopw [12] (fun i wr => ∃ k : Nat, k ≤ q.rg.length ∧ i = .int .i64 (k : Int) ∧ Below w1.heap.size w1 wr ∧ Hid (w2.heap.size ≤ wr.heap.size ∧ EachP utE 41 93 G (.slice (some ⟨G, 0, none⟩) W W) (List.replicate W ((zeroU, hd0, hd0, hd0) : Uv)) (RU w2.heap.size) (q.rg.map mutatorF) wr k)) (fun i _ => q.rg.length - (Go.RowKit.intOf i).toNat)
  case atStart => exact ⟨0, Nat.zero_le _, by simp, HB2.out, hide ⟨Nat.le_refl _, EachP.start (by rw [List.length_replicate]; exact HO0.out)⟩⟩
  case round =>
    obtain ⟨k, hk, rfl, hb, HP⟩ := hrel
    have hsz := hb.size
    by_cases hlt : k < q.rg.length
    · obtain ⟨hw1, es, hl, ho, hr, hn⟩ := HP.out
      rw [List.length_replicate] at hl ho
      have hkW : k < W := by have := HLN.out; omega
      obtain ⟨b, off, u, rfl, -, hc, hu⟩ := grid_at (HG.out.below hb) hlt
      obtain ⟨uh, rfl, -⟩ := hd_of hu
      obtain ⟨l0, hl0⟩ : ∃ l, q.rg[k] = l := ⟨_, rfl⟩
      have hl1 : q.rg[k]? = some l0 := by rw [List.getElem?_eq_getElem hlt, hl0]
      rw [hl0] at hu
      have hsm0 := HSM.out l0 (List.mem_of_getElem? hl1)
      have HU := hide hu
      have HL := hide hl
      have HO := hide ho
      have HR := hide hr
      have HN := hide hn
      have HL1 := hide hl1
      clear hl ho hr hn HP hl0 hl1 hu
      go_wp2_with fail
      (with_reducible refine (Clone_ints _ l0 _ HU.out hsm0).mono ?_)
      rintro e w5 ⟨v', rfl, ho5, hb5⟩
      obtain ⟨r', rfl, -⟩ := hd_of (Sl.of_own ic_len ho5)
      have HR5 := hide (show RU w2.heap.size w5 (mutatorF l0, r', hd0, hd0) (mutatorF l0) from ⟨rfl, own_base ho5 hw1, own0Sa, own0Sa⟩)
      have HO5 := hide (own_below HO.out hb5)
      have HB5 := hide (bcall hb hb5)
      have HN5 := hide (fun (i : Nat) x q (h1 : i < k) h2 h3 => (HN.out i x q h1 h2 h3).below hb5)
      have hs5 := hb5.size
      clear ho5 hb5
      go_wp2_with (refine wpList_store_elem (es := es) rfl 93 (.tmp 22) (.tmp 21) rfl k (k * 41) rfl rfl ((mutatorF l0, r', hd0, hd0) : Uv) rfl (by kernel_rfl) utE_len (utE_one _) HO5.out (by rw [HL.out]; exact hkW) ?_; intro w6 ho6 hg6)
      go_roundw
      case rel =>
        refine ⟨k + 1, by omega, by go_num, HB5.out.grown hg6 (by omega) (fun g e => by injection e with e; have := HG_.out; omega), hide ⟨Nat.le_trans (Nat.le_trans hw1 hs5) hg6.size, ?_⟩⟩
        exact EachP.next (by rw [HL.out, List.length_replicate]) (by rw [List.length_replicate]; exact hkW) (by rw [List.length_replicate]; exact ho6) HR.out (fun i x y h1 h2 h3 => (HN5.out i x y h1 h2 h3).grown hg6 HGW.out) (q0 := mutatorF l0) (by rw [List.getElem?_map, HL1.out]; rfl) (HR5.out.grown hg6 HGW.out)
      case measure => simp [Go.RowKit.intOf]; omega
    · have hkk : k = q.rg.length := by omega
      go_wp2
      obtain ⟨hw1, es, hl, ho, hr, hn⟩ := HP.out
      rw [List.length_replicate] at hl ho
      have hkW : k = W := hkk.trans HLN.out
      go_ret
      refine ⟨(some ⟨G, 0, none⟩, W, W), rfl, ⟨es, own_base (by rw [List.length_map, HLN.out]; exact ho) (by rw [← HG_.out]; exact HB1.out.size), by rw [hl, List.length_map, HLN.out], fun i x y hx hy => ?_⟩, HB1.out.trans (hb.mono HB1.out.size)⟩
      have hik : i < k := by have := (List.getElem?_eq_some_iff.1 hx).1; omega
      exact (hn i x y hik hx hy).le (Nat.le_trans HB1.out.size HB2.out.size)
end Go.Proofs.YtdmbcjckgfjcaaaGreatDoor
/- Layer state: one put ahead of a slice: what it reads as. Written by tools/genstatet.py. -/
namespace Go.Proofs.YtdmbcjckgfjcaaaGreatDoor
open Go.RowKit Go.Joins Go.Shelf
theorem ic_one1 (x : Int) : ∀ u ∈ ic x, u.oneCell' = true := List.all_eq_true.1 (show (ic x).all (fun u => u.oneCell') = true from rfl)
section
variable {P : Program}
/-- append where the second slice's type is another one -/
theorem append_types (w : World) (t tx ty e ex : TypeId) (ht : P.underlying t = some (.slice e)) (hx : P.underlying tx = some (.slice ex)) (v x : Value) : (Builtin.append_ #[t, tx] ty #[v, x]).run P w = (Builtin.append_ #[t, t] ty #[v, x]).run P w := by
  cases v with
  | slice A n c => simp [Builtin.append_, run_underlying ht, run_underlying hx]
  | _ => simp [Builtin.append_, run_underlying ht]
end
end Go.Proofs.YtdmbcjckgfjcaaaGreatDoor
