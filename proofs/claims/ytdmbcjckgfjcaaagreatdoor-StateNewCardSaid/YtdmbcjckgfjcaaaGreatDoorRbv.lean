/- Layer state: New. Written by tools/genstateg.py. -/
import Derived.Test.YtdmbcjckgfjcaaaGreatDoorRbu
import Derived.Test.YtdmbcjckgfjcaaaGreatDoorRbt
namespace Go.Proofs.YtdmbcjckgfjcaaaGreatDoor
open Go.RowKit Go.Joins Go.Shelf
section
variable {P : Program}
theorem step_make_full (w : World) {ops : Array Oper} {op : Oper} {a : Act} {K : Act → World → Prop} {Q : Exit → Act → World → Prop} {E : Prop}
    (hg : op.guard = none) (l c : Operand) (t : TypeId) (hop : op.op = Op.makeSlice t l c)
    (base : Nat) (e : TypeId) (i : TypeInfo) (z : Value) (size : Nat) (h1 : P.underlying t = some (.slice e)) (h2 : P.info? e = some i) (h3 : i.zero = some z) (h4 : i.size = size)
    (kl kc : IntKind) (L C : Int) (n : Nat) (hl : a.eval l = .int kl L) (hc : a.eval c = .int kc C) (hL : L = (n : Int)) (hC : C = (n : Int)) (b2 : i.bytes * n ≤ 281474976710656) (b3 : n ≤ maxLen) (b4 : base ≤ w.heap.size)
    (hK : ∀ w' (av : Hd), w'.ownsRow base e size (hdV av) n (madeCells z.cells (n * size)).toList → w.grownBy w' none → K (a.put op.dst (hdV av)) w') :
    if Region.wanted op (yielded ops a.tmps) = true then Oper.wp P op a w K Q else E := by
  rw [if_pos (show Region.wanted op (yielded ops a.tmps) = true by simp [Region.wanted, hg])]
  obtain ⟨w', hrun, r1, r2⟩ := run_make_full (P := P) w base t e i z size h1 h2 h3 h4 kl kc n b2 b3 b4
  subst hL
  subst hC
  unfold Oper.wp
  simp [execOp, hop, hl, hc, hrun, Result.andThen]
  exact hK w' (some ⟨w.heap.size, 0, none⟩, n, n) r1 r2
theorem step_store_rowSa {ops : Array Oper} {op : Oper} {a : Act} {w : World} {K : Act → World → Prop} {Q : Exit → Act → World → Prop} {E : Prop} (hgd : op.guard = none) (ty : TypeId) (x y : Operand) (ho : op.op = .store ty x y)
    (b : Nat) (cells : Array Value) (hx : a.eval x = .pointer (some ⟨b, 0, none⟩)) (hy : a.eval y = .agg cells) (t : TypeId) (old : Array Value) (hg : w.heap[b]? = some (.cells old t (0, 0)))
    (hi : (P.info? ty).map (·.size) = some cells.size) (hs : old.size = cells.size) (h1 : cells.all (·.oneCell') = true)
    (h : K (a.put op.dst undef) (w.setRow b cells)) : if Region.wanted op (yielded ops a.tmps) = true then Oper.wp P op a w K Q else E := by
  rw [if_pos (show Region.wanted op (yielded ops a.tmps) = true by simp [Region.wanted, hgd])]
  exact wp_store_row ty x y ho b cells hx hy t old hg hi hs h1 h
end
theorem fill_any (nb k : Nat) (v : Hd) (g : List Int) (hk : 1 ≤ k) (hk2 : k ≤ 64) (hnb : nb ≤ 1000) (w : World) (hg : Ints w (hdV v) g) (hm : g.length ≤ 1000) (hf : fullN k g.length ≤ nb) (f : Int) (hff : ((fullN k g.length : Nat) : Int) = f) (kk nn : Int) (hkk : (k : Int) = kk) (hnn : (nb : Int) = nn) :
    Calls Tryz.prog 53 #[.int .i64 nn, .int .i64 kk, hdV v] w fun e W' => ∃ v' : Hd, e = .returned (.tuple #[hdV v', .int .i64 f]) ∧ OwnRows 47 3 w.heap.size W' (hdV v') ([] :: chunk k nb g) ∧ Below w.heap.size w W' := by
  subst hff hkk hnn
  obtain ⟨A, c, e, -⟩ := id hg
  have hv : v.2.1 = g.length := by injection e
  obtain ⟨A_, n_, c_⟩ := v
  obtain rfl : n_ = g.length := hv
  exact (callsIn_wide (n := 8)).1 (fill_in nb k A_ _ c_ g hk hk2 hnb w hg rfl hm hf)
theorem greys_r (q : Pq) (ob rg pg pk : Hd) (hq : PRt q) (hs : q.ro < 18446744073709551616) (w : World) (hg : Grid w (hdV rg) q.rg) :
    Calls Tryz.prog 30 #[.agg (plLSa q (hdV ob) (hdV rg) (hdV pg) (hdV pk)).toArray] w fun e w' => e = .returned (.int .u64 (pGreys q : Int)) ∧ Below w.heap.size w w' := by
  refine pGreys_c q.wk q.mu q.cp q.bf q.bn q.mo q.pr q.li q.sl (hdV ob) q.ro (hdV rg) (hdV pg) (hdV pk) q.rg w hs hg (fun r hr x hx => ?_) _ ?_
  · have := (regs_of hq hr).1 x hx
    have := right_ob hq
    omega
  · unfold grF; rw [List.take_length]; rfl
theorem right_r (q : Pq) (ob rg pg pk : Hd) (hs : q.ro < 18446744073709551616) (w : World) (hP : PlanR w (hdV ob) (hdV rg) (hdV pg) (hdV pk) q) (r : Bool) (hr : pRight q = r) :
    Calls Tryz.prog 52 #[.agg (plLSa q (hdV ob) (hdV rg) (hdV pg) (hdV pk)).toArray] w fun e w' => e = .returned (.bool r) ∧ Below w.heap.size w w' :=
  pRight_c q.wk q.mu q.cp q.bf q.bn q.mo q.pr q.li q.sl (hdV ob) q.ro (hdV rg) (hdV pg) (hdV pk) q.ob q.rg q.pg q.pk w hs hP r hr
theorem count_r (s : Nat) (hs : s < 18446744073709551616) (w : World) : Calls Tryz.prog 33 #[.int .u64 (s : Int)] w fun e w' => e = .returned (.int .i64 (cntF s : Nat)) ∧ Below w.heap.size w w' := by
  refine (Count_any s w hs).mono ?_
  rintro e w' ⟨rfl, rfl⟩
  exact ⟨rfl, Below.refl _ _⟩
theorem list_r (s : Nat) (hs : s < 18446744073709551616) (w : World) (hE : EnvT w) : Calls Tryz.prog 54 #[.int .u64 (s : Int)] w fun e w' => ∃ v : Hd, e = .returned (hdV v) ∧ Ints w' (hdV v) (objs s) ∧ Below w.heap.size w w' := by
  refine (List_tab s hs w hE).mono ?_
  rintro e w' ⟨v, rfl, h, hb⟩
  obtain ⟨x, rfl, -⟩ := hd_of (Sl.of_own ic_len h)
  exact ⟨x, rfl, Sl.of_own ic_len h, hb⟩
theorem lnew_r (m : Int) (_h0 : 0 ≤ m) (_h1 : m ≤ 16) (w : World) : Calls Tryz.prog 58 #[.int .i64 m] w fun e w' => ∃ v : Hd, e = .returned (.agg #[.int .i64 0, .int .i64 0, .int .i64 0, hdV v]) ∧ OwnB w.heap.size w' (hdV v) (lNew m).bal ∧ Below w.heap.size w w' := by
  refine (New_any m w).mono ?_
  rintro e w' ⟨v, rfl, h, hb⟩
  obtain ⟨x, rfl, -⟩ := hd_of h.ints
  exact ⟨x, rfl, h, hb⟩
theorem progs_len {q : Pq} (h : PRt q) {l : List Oq} (hl : l ∈ q.pg) : l.length ≤ 64 := by
  obtain ⟨i, hi⟩ := List.getElem?_of_mem hl
  have hlt := (List.getElem?_eq_some_iff.1 hi).1
  have hlt2 : i < q.rg.length := by have := h.lens; omega
  have hm : (q.rg[i], l) ∈ q.rg.zip q.pg := by
    refine List.mem_of_getElem? (i := i) ?_
    rw [List.getElem?_zip_eq_some]
    exact ⟨List.getElem?_eq_getElem hlt2, hi⟩
  have := h.muts _ hm
  unfold mutF cFits at this
  rw [Bool.and_eq_true, Bool.and_eq_true, decide_eq_true_iff] at this
  exact this.2.2
/-- a right plan is short enough to be copied -/
structure PSm (q : Pq) : Prop where
  s0 : ∀ l ∈ q.ob, l.length * 8 ≤ 140737488351232
  b0 : q.ob.length * 24 ≤ 140737488351232
  s1 : ∀ l ∈ q.rg, l.length * 8 ≤ 140737488351232
  b1 : q.rg.length * 24 ≤ 140737488351232
  s2 : ∀ l ∈ q.pg, l.length * 32 ≤ 140737488351232
  b2 : q.pg.length * 24 ≤ 140737488351232
  b3 : q.pk.length * 16 ≤ 140737488351232
theorem psm {q : Pq} (h : PRt q) : PSm q := by
  have hf := fit_right h.hp
  have hr := h.rng
  unfold pRng at hr
  have hl := h.lens
  exact ⟨hf.2, hf.1, fun l hl => by have := (regs_of h hl).2.2; omega, by omega, fun l hl => by have := progs_len h hl; omega, by omega, by have := h.len; omega⟩
def nilSv : Sv := ⟨hd0, hd0, hd0, hd0, hd0, hd0, hd0, hd0, hd0, hd0, hd0⟩
theorem nil_str (w : World) : StR w nilSv zeroS := ⟨⟨Grid.nil_, Grid.nil_, GridO.nil_, Sl.nil_⟩, Grid.nil_, Sl.nil_, Grid.nil_, Sl.nil_, Sl.nil_, Wks.nil_, Uts.nil_⟩
theorem acks_r {w : World} {b : Nat} {v : Value} {n : Nat} (h : w.ownsRow b 3 1 v n (madeCells (Value.int .i64 0).cells (n * 1)).toList) : w.ownsRow b 3 1 v (List.replicate n (0 : Int)).length ((List.replicate n (0 : Int)).flatMap ic) := by
  rw [List.length_replicate, ← ic_map, List.map_replicate]
  have e : (madeCells (Value.int .i64 0).cells (n * 1)).toList = List.replicate n (Value.int .i64 0) := by rw [Nat.mul_one]; exact toList_madeCells_one _ _
  rw [← e]; exact h
/-- what a new state's slices read as, all in blocks from b on -/
structure NewR (b : Nat) (w : World) (v : Sv) (q : Sq) : Prop where
  p : PlanN b w (hdV v.ob) (hdV v.rg) (hdV v.pg) (hdV v.pk) q.p
  hob : OwnRows 47 3 b w (hdV v.hob) q.ob
  m : CellsN b w (hdV v.m) q.m
  bins : OwnRows 47 3 b w (hdV v.bins) q.bins
  acks : w.ownsRow b 3 1 (hdV v.acks) q.acks.length (q.acks.flatMap ic)
  bl : OwnB b w (hdV v.bl) q.l.bal
  ws : OwnWs b w (hdV v.ws) q.ws
  ms : OwnUs b w (hdV v.ms) q.ms
theorem NewR.read {b : Nat} {w : World} {v : Sv} {q : Sq} (h : NewR b w v q) : StR w v q :=
  ⟨h.p.read, h.hob.grid, h.m.read, h.bins.grid, Sl.of_own ic_len h.acks, h.bl.ints, h.ws.read, h.ms.read⟩
theorem NewR.grown {b G : Nat} {w w' : World} {v : Sv} {q : Sq} (h : NewR b w v q) (hg : w.grownBy w' (some G)) (hG : G < b) : NewR b w' v q :=
  ⟨h.p.grown hg hG, h.hob.grown hg hG, h.m.grown hg hG, h.bins.grown hg hG, own_grown h.acks hg hG, own_grown h.bl hg hG, h.ws.grown hg hG, h.ms.grown hg hG⟩
theorem below_none {w w' : World} (h : w.grownBy w' none) : Below w.heap.size w w' := ⟨h.os, h.tape, h.output, h.size, fun k hk => h.block k hk (by simp)⟩
theorem cells_r (q : Pq) (ob rg pg pk : Hd) (hq : PRt q) (f : Nat) (hf : f ≤ binsC q) (z : Int) (hz : (f : Int) = z) (w : World) :
    Calls Tryz.prog 57 #[.agg (plLSa q (hdV ob) (hdV rg) (hdV pg) (hdV pk)).toArray, .int .i64 z] w fun e w' => ∃ v : Hd, e = .returned (hdV v) ∧ CellsN w.heap.size w' (hdV v) (newM q.wk.toNat q.cp.toNat (binsC q) (binsN 0 f) (binsN f (binsC q - f))) ∧ Below w.heap.size w w' := by
  subst hz; exact cells_any q ob rg pg pk hq f hf w
set_option maxRecDepth 100000 in
set_option maxHeartbeats 40000000 in
theorem new_f (q : Pq) (ob rg pg pk : Hd) (hs : q.ro < 18446744073709551616) (hr : pRight q = false) (w : World) (hP : PlanR w (hdV ob) (hdV rg) (hdV pg) (hdV pk) q) :
    Calls Tryz.prog 13 #[.agg (plLSa q (hdV ob) (hdV rg) (hdV pg) (hdV pk)).toArray] w fun e w' => ∃ v : Sv, e = .returned (.agg (stL (sNew q) v).toArray) ∧ StR w' v (sNew q) ∧ Below w.heap.size w w' := by
  rw [new_none hr]
  obtain ⟨w1, e1, k1, k2, hb1, hs1⟩ := two_box w (plLSa q (hdV ob) (hdV rg) (hdV pg) (hdV pk)) st0Sa 30 66
  have E1 := hide e1
  have K1 := hide k1
  have K2 := hide k2
  have HB := hide hb1
  have HP := hide (hP.below hb1)
  clear e1 k1 k2 hb1 hP
  go_enter Tryz.func13, Tryz.ntmps13
  go_upto_region 1 with (fail)
  rw [E1.out]
  go_upto_region 2 with (first
    | (refine wpList_load_row rfl 30 (.tmp 1) rfl w.heap.size rfl (plLSa q (hdV ob) (hdV rg) (hdV pg) (hdV pk)).toArray _ _ _ K1.out Tryz.underlying30 rfl (by kernel_rfl) ?_)
    | (go_at_call 52; (with_reducible refine (right_r q ob rg pg pk hs _ HP.out _ hr).mono ?_); rintro e w2 ⟨rfl, hb2⟩))
  have HN := hide (setRow_heap _ _ _ (stL zeroS nilSv).toArray _ _ (K2.out.below hb2))
  have HK2 := hide (K2.out.below hb2)
  have HB2 := hide (bcall HB.out hb2)
  clear hb2
  go_wp2_with (refine wpList_store_row rfl 66 (.tmp 2) (.tmp 9) rfl (w.heap.size + 1) rfl (stL zeroS nilSv).toArray rfl _ _ HK2.out (by kernel_rfl) rfl (stA_one zeroS nilSv) ?_)
  refine bodyPost_ret (results_row Tryz.results13 (w.heap.size + 1) rfl _ _ _ _ HN.out Tryz.underlying66 rfl (by kernel_rfl)) rfl ?_
  exact ⟨nilSv, rfl, nil_str _, below_setRow HB2.out (by omega) _⟩
set_option maxRecDepth 100000 in
set_option maxHeartbeats 40000000 in
theorem new_n (q : Pq) (ob rg pg pk : Hd) (hs : q.ro < 18446744073709551616) (hr : pRight q = true) (w : World) (hP : PlanR w (hdV ob) (hdV rg) (hdV pg) (hdV pk) q) (hE : EnvT w) :
    Calls Tryz.prog 13 #[.agg (plLSa q (hdV ob) (hdV rg) (hdV pg) (hdV pk)).toArray] w fun e w' => ∃ v : Sv, e = .returned (.agg (stL (sNew q) v).toArray) ∧ NewR (w.heap.size + 2) w' v (sNew q) ∧ Below w.heap.size w w' := by
  rw [new_right hr]
  have hq := pRight_iff.1 hr
  have hrn := hq.rng
  unfold pRng at hrn
  have hsm := psm hq
  have hbr := bins_rng hq
  have hbp := bin_pos hq
  have hgl := grey_lt hs
  have hgf := grey_few hq hs
  have hff := full_few hq hs
  obtain ⟨fI, hfI⟩ : ∃ z : Int, ((fullC q : Nat) : Int) = z := ⟨_, rfl⟩
  obtain ⟨nI, hnI⟩ : ∃ z : Int, ((binsC q : Nat) : Int) = z := ⟨_, rfl⟩
  obtain ⟨w1, e1, k1, k2, hb1, hs1⟩ := two_box w (plLSa q (hdV ob) (hdV rg) (hdV pg) (hdV pk)) st0Sa 30 66
  have E1 := hide e1
  have K1 := hide k1
  have K2 := hide k2
  have HB := hide hb1
  have HP := hide (hP.below hb1)
  have HE := hide (hE.below hb1)
  have HQ := hide hq
  have HRN := hide hrn
  have HSM := hide hsm
  have HBI := hide ((bins_r hq).trans hnI)
  have HGL := hide hgl
  have HFF := hide hff
  have HFI := hide hfI
  have HFFN := hide (show fullN q.bn.toNat (greyL q).length ≤ binsC q from hff)
  have HFIN := hide (show ((fullN q.bn.toNat (greyL q).length : Nat) : Int) = fI from hfI)
  have HNI := hide hnI
  have HBR := hide hbr
  have HBP := hide hbp
  have HGF := hide hgf
  clear e1 k1 k2 hb1 hP hE hq hrn hsm hgl hff hfI hnI hbr hbp hgf
  go_enter Tryz.func13, Tryz.ntmps13
  go_upto_region 1 with (fail)
  rw [E1.out]
  go_upto_region 3 with (first
    | (refine wpList_load_row rfl 30 (.tmp 1) rfl w.heap.size rfl (plLSa q (hdV ob) (hdV rg) (hdV pg) (hdV pk)).toArray _ _ _ K1.out Tryz.underlying30 rfl (by kernel_rfl) ?_)
    | (go_at_call 52; (with_reducible refine (right_r q ob rg pg pk hs _ HP.out _ hr).mono ?_); rintro e w2 ⟨rfl, hb2⟩))
  have K12 := hide (K1.out.below hb2)
  have HP2 := hide (HP.out.below hb2)
  have HB2 := hide hb2
  clear hb2
  go_upto_region 4 with (first
    | (refine wpList_load_row rfl 30 (.tmp 1) rfl w.heap.size rfl (plLSa q (hdV ob) (hdV rg) (hdV pg) (hdV pk)).toArray _ _ _ K12.out Tryz.underlying30 rfl (by kernel_rfl) ?_)
    | (go_at_call 30; (with_reducible refine (greys_r q ob rg pg pk HQ.out hs _ HP2.out.rg).mono ?_); rintro e w3 ⟨rfl, hb3⟩))
  have HB3 := hide (bcall HB2.out hb3)
  clear hb3
  have HBC := hide (show Below w1.heap.size w1 w3.drew from ⟨HB3.out.os, HB3.out.tape, HB3.out.output, HB3.out.size, HB3.out.block⟩)
  refine wp_region_held_drew (S := fun w_ => Bc 30 w_ w.heap.size (plLSa q (hdV ob) (hdV rg) (hdV pg) (hdV pk))) (by kernel_rfl) ?_ (fun hHeld => ?_)
  · exact (by exact K1.out.below HBC.out)
  refine tk 0 (hy := fun w_ h_ => ex_loadk (m := [.int .i64 q.wk, .int .i64 q.mu, .int .i64 q.cp, .int .i64 q.bf, .int .i64 q.bn, .int .i64 q.mo, .int .i64 q.pr, .int .i64 q.li, .int .i64 q.sl, hdV ob, .int .u64 (q.ro : Int), hdV rg, hdV pg, hdV pk]) rfl rfl h_ Tryz.underlying30 rfl (by kernel_rfl) rfl) (h := ?_)
  refine tk 2 (h := ?_)
  refine tk 3 (hy := fun w_ h_ => ex_load1 rfl rfl h_ Tryz.underlying3 rfl rfl) (h := ?_)
  refine tk 4 (h := ?_)
  refine wpAnyH_ready (rs := [1]) (by kernel_rfl) (by simp) ?_
  refine AllReadyH.cons rfl (fun K hK => ?_) AllReadyH.nil
  go_simp
  go_at_call 32
  (with_reducible refine (Bins_r q ob rg pg pk _ _ HBI.out).mono ?_)
  rintro x w4 ⟨rfl, hb⟩
  have HBC := hide (bcall HBC.out hb)
  clear hb
  (try go_simp)
  refine hK.out _ _ (by exact K1.out.below HBC.out) (fun hHeld => ?_)
  clear hK
  (try simp only [Act.put, List.setIfInBounds_toArray, List.set_cons_zero, List.set_cons_succ])
  refine wpAnyH_ready (rs := [5]) (by kernel_rfl) (by simp) ?_
  refine AllReadyH.cons rfl (fun K hK => ?_) AllReadyH.nil
  go_simp
  go_at_call 54
  (with_reducible refine (list_r (pGreys q) HGL.out _ (HE.out.below HBC.out)).mono ?_)
  rintro x w4 ⟨gv, rfl, hGV, hb⟩
  have HGV := hide hGV
  clear hGV
  have HBC := hide (bcall HBC.out hb)
  clear hb
  (try go_simp)
  refine hK.out _ _ (by exact K1.out.below HBC.out) (fun hHeld => ?_)
  clear hK
  (try simp only [Act.put, List.setIfInBounds_toArray, List.set_cons_zero, List.set_cons_succ])
  refine wpAnyH_ready (rs := [6]) (by kernel_rfl) (by simp) ?_
  refine AllReadyH.cons rfl (fun K hK => ?_) AllReadyH.nil
  go_simp
  go_at_call 53
  (with_reducible refine (fill_any (binsC q) q.bn.toNat gv (greyL q) (by have := HBP.out.1; omega) (by have := HBP.out.2.1; omega) (by have := HBR.out.2.1; omega) _ HGV.out (by have := HGF.out; have := HBR.out.2.1; omega) HFFN.out fI HFIN.out q.bn nI HBP.out.2.2 HNI.out).mono ?_)
  rintro x w4 ⟨bv, rfl, hBV, hb⟩
  have HBV := hide hBV
  have HSZ := hide (Nat.le_trans (show w.heap.size + 2 ≤ w1.heap.size by omega) HBC.out.size)
  clear hBV
  have HBC := hide (bcall HBC.out hb)
  clear hb
  (try go_simp)
  refine hK.out _ _ (by exact K1.out.below HBC.out) (fun hHeld => ?_)
  clear hK
  (try simp only [Act.put, List.setIfInBounds_toArray, List.set_cons_zero, List.set_cons_succ])
  refine tk 7 (h := ?_)
  refine tk 8 (h := ?_)
  refine tk 9 (h := ?_)
  refine tk 10 (h := ?_)
  refine tk 11 (h := ?_)
  refine wpAnyH_done (by kernel_rfl) ?_ _
  go_upto_region 5 with (fail)
  have HBX := hide HBC.out
  have HP4 := hide (HP.out.below HBX.out)
  have K14 := hide (K1.out.below HBX.out)
  have K24 := hide (K2.out.below HBX.out)
  have hw4 := Nat.le_trans (show w.heap.size + 2 ≤ w1.heap.size by omega) HBX.out.size
  obtain ⟨i0, hi, hz0, hz1, hz2⟩ := info_parts infoInt
  clear HBC HB3 HB2 K12 HP2
  have HBC := hide (show Below w4.heap.size w4 w4.drew from ⟨rfl, rfl, rfl, Nat.le_refl _, fun _ _ => rfl⟩)
  have HBVs := hide (show OwnRows 47 3 (w.heap.size + 2) w4.drew (hdV bv) ([] :: chunk q.bn.toNat (binsC q) (greyL q)) from (HBV.out.le HSZ.out))
  clear HBV
  refine wp_region_held_drew (S := fun w_ => Bc 30 w_ w.heap.size (plLSa q (hdV ob) (hdV rg) (hdV pg) (hdV pk))) (by kernel_rfl) ?_ (fun hHeld => ?_)
  · exact (by exact K14.out.below HBC.out)
  refine tk 0 (hy := fun w_ h_ => ex_loadk (m := [.int .i64 q.wk, .int .i64 q.mu, .int .i64 q.cp, .int .i64 q.bf, .int .i64 q.bn, .int .i64 q.mo, .int .i64 q.pr, .int .i64 q.li, .int .i64 q.sl, hdV ob, .int .u64 (q.ro : Int), hdV rg, hdV pg, hdV pk]) rfl rfl h_ Tryz.underlying30 rfl (by kernel_rfl) rfl) (h := ?_)
  refine tk 2 (h := ?_)
  refine tk 3 (hy := fun w_ h_ => ex_loadk (m := [.int .i64 q.sl, hdV ob]) rfl rfl h_ Tryz.underlying24 rfl (by kernel_rfl) rfl) (h := ?_)
  refine tk 5 (hy := fun w_ h_ => ex_loadk (m := [.int .i64 q.wk, .int .i64 q.mu, .int .i64 q.cp, .int .i64 q.bf, .int .i64 q.bn, .int .i64 q.mo, .int .i64 q.pr, .int .i64 q.li, .int .i64 q.sl, hdV ob, .int .u64 (q.ro : Int), hdV rg, hdV pg, hdV pk]) rfl rfl h_ Tryz.underlying30 rfl (by kernel_rfl) rfl) (h := ?_)
  refine tk 6 (h := ?_)
  refine tk 8 (h := ?_)
  refine tk 9 (h := ?_)
  refine tk 10 (h := ?_)
  refine tk 11 (h := ?_)
  refine tk 13 (h := ?_)
  refine tk 14 (hy := fun w_ h_ => ex_load1 rfl rfl h_ Tryz.underlying3 rfl rfl) (h := ?_)
  refine tk 16 (h := ?_)
  refine tk 17 (hy := fun w_ h_ => ex_load1 rfl rfl h_ Tryz.underlying3 rfl rfl) (h := ?_)
  refine tk 19 (hy := fun w_ h_ => ex_loadk (m := [.int .i64 q.wk, .int .i64 q.mu, .int .i64 q.cp, .int .i64 q.bf, .int .i64 q.bn, .int .i64 q.mo, .int .i64 q.pr, .int .i64 q.li, .int .i64 q.sl, hdV ob, .int .u64 (q.ro : Int), hdV rg, hdV pg, hdV pk]) rfl rfl h_ Tryz.underlying30 rfl (by kernel_rfl) rfl) (h := ?_)
  refine tk 21 (hy := fun w_ h_ => ex_loadk (m := [.int .i64 q.wk, .int .i64 q.mu, .int .i64 q.cp, .int .i64 q.bf, .int .i64 q.bn, .int .i64 q.mo, .int .i64 q.pr, .int .i64 q.li, .int .i64 q.sl, hdV ob, .int .u64 (q.ro : Int), hdV rg, hdV pg, hdV pk]) rfl rfl h_ Tryz.underlying30 rfl (by kernel_rfl) rfl) (h := ?_)
  refine wpAnyH_ready (rs := [1, 15]) (by kernel_rfl) (by simp) ?_
  refine AllReadyH.cons rfl (fun K hK => ?_) (AllReadyH.cons rfl (fun K hK => ?_) AllReadyH.nil)
  · skip
    go_simp
    go_at_call 55
    (with_reducible refine (copiedPlan_any q ob rg pg pk _ (HP4.out.below HBC.out) HSM.out.s0 HSM.out.b0 HSM.out.s1 HSM.out.b1 HSM.out.s2 HSM.out.b2 HSM.out.b3).mono ?_)
    rintro x w5 ⟨ob', rg', pg', pk', rfl, hX, hb⟩
    have hle_ := Nat.le_trans hw4 HBC.out.size
    have HPN := hide (hX.le hle_)
    have HBVs := hide (HBVs.out.below hb)
    have HBC := hide (bcall HBC.out hb)
    clear hb
    clear hle_
    (try go_simp)
    refine hK.out _ _ (by exact K14.out.below HBC.out) (fun hHeld => ?_)
    clear hK
    (try simp only [Act.put, List.setIfInBounds_toArray, List.set_cons_zero, List.set_cons_succ])
    refine wpAnyH_ready (rs := [4, 15]) (by kernel_rfl) (by simp) ?_
    refine AllReadyH.cons rfl (fun K hK => ?_) (AllReadyH.cons rfl (fun K hK => ?_) AllReadyH.nil)
    · skip
      go_simp
      go_at_call 56
      (with_reducible refine (copiedHeap_any q.sl ob q.ob _ (HP4.out.below HBC.out).ob HSM.out.s0 HSM.out.b0).mono ?_)
      rintro x w5 ⟨b', rfl, hX, hb⟩
      have hle_ := Nat.le_trans hw4 HBC.out.size
      have HHO := hide (hX.le hle_)
      have HBVs := hide (HBVs.out.below hb)
      have HPN := hide (HPN.out.below hb)
      have HBC := hide (bcall HBC.out hb)
      clear hb
      clear hle_
      (try go_simp)
      refine hK.out _ _ (by exact K14.out.below HBC.out) (fun hHeld => ?_)
      clear hK
      (try simp only [Act.put, List.setIfInBounds_toArray, List.set_cons_zero, List.set_cons_succ])
      refine wpAnyH_ready (rs := [7, 15]) (by kernel_rfl) (by simp) ?_
      refine AllReadyH.cons rfl (fun K hK => ?_) (AllReadyH.cons rfl (fun K hK => ?_) AllReadyH.nil)
      · skip
        go_simp
        go_at_call 57
        (with_reducible refine (cells_r q ob rg pg pk HQ.out (fullC q) HFF.out fI HFI.out _).mono ?_)
        rintro x w5 ⟨mv, rfl, hX, hb⟩
        have hle_ := Nat.le_trans hw4 HBC.out.size
        have HCM := hide (hX.le hle_)
        have HBVs := hide (HBVs.out.below hb)
        have HPN := hide (HPN.out.below hb)
        have HHO := hide (HHO.out.below hb)
        have HBC := hide (bcall HBC.out hb)
        clear hb
        clear hle_
        (try go_simp)
        refine hK.out _ _ (by exact K14.out.below HBC.out) (fun hHeld => ?_)
        clear hK
        (try simp only [Act.put, List.setIfInBounds_toArray, List.set_cons_zero, List.set_cons_succ])
        refine wpAnyH_ready (rs := [12, 15]) (by kernel_rfl) (by simp) ?_
        refine AllReadyH.cons rfl (fun K hK => ?_) (AllReadyH.cons rfl (fun K hK => ?_) AllReadyH.nil)
        · skip
          go_simp
          go_at_call 33
          (with_reducible refine (count_r (pGreys q) HGL.out _).mono ?_)
          rintro x w5 ⟨rfl, hb⟩
          have hle_ := Nat.le_trans hw4 HBC.out.size
          have HBVs := hide (HBVs.out.below hb)
          have HPN := hide (HPN.out.below hb)
          have HHO := hide (HHO.out.below hb)
          have HCM := hide (HCM.out.below hb)
          have HBC := hide (bcall HBC.out hb)
          clear hb
          clear hle_
          (try go_simp)
          refine hK.out _ _ (by exact K14.out.below HBC.out) (fun hHeld => ?_)
          clear hK
          (try simp only [Act.put, List.setIfInBounds_toArray, List.set_cons_zero, List.set_cons_succ])
          refine wpAnyH_ready (rs := [15, 18]) (by kernel_rfl) (by simp) ?_
          refine AllReadyH.cons rfl (fun K hK => ?_) (AllReadyH.cons rfl (fun K hK => ?_) AllReadyH.nil)
          · skip
            refine step_make_full _ rfl _ _ _ rfl w4.heap.size 3 i0 (.int .i64 0) 1 Tryz.underlying47 hi hz0 hz1 .i64 .i64 q.mu q.mu q.mu.toNat rfl rfl (by have := HRN.out; omega) (by have := HRN.out; omega) (by rw [hz2]; have := HRN.out; omega) (by have := HRN.out; unfold maxLen; omega) HBC.out.size ?_
            intro w5 av hX hgX
            have hb := below_none hgX
            have HAC := hide (own_base (acks_r hX) hw4)
            have HBVs := hide (HBVs.out.below hb)
            have HPN := hide (HPN.out.below hb)
            have HHO := hide (HHO.out.below hb)
            have HCM := hide (HCM.out.below hb)
            have HBC := hide (bcall HBC.out hb)
            clear hb
            (try go_simp)
            refine hK.out _ _ (by exact K14.out.below HBC.out) (fun hHeld => ?_)
            clear hK
            (try simp only [Act.put, List.setIfInBounds_toArray, List.set_cons_zero, List.set_cons_succ])
            refine wpAnyH_ready (rs := [18]) (by kernel_rfl) (by simp) ?_
            refine AllReadyH.cons rfl (fun K hK => ?_) AllReadyH.nil
            go_simp
            go_at_call 58
            (with_reducible refine (lnew_r q.mu (by have := HRN.out; omega) (by have := HRN.out; omega) _).mono ?_)
            rintro x w5 ⟨bl', rfl, hX, hb⟩
            have hle_ := Nat.le_trans hw4 HBC.out.size
            have HLB := hide (own_base hX hle_)
            have HBVs := hide (HBVs.out.below hb)
            have HPN := hide (HPN.out.below hb)
            have HHO := hide (HHO.out.below hb)
            have HCM := hide (HCM.out.below hb)
            have HAC := hide (own_below HAC.out hb)
            have HBC := hide (bcall HBC.out hb)
            clear hb
            clear hle_
            (try go_simp)
            refine hK.out _ _ (by exact K14.out.below HBC.out) (fun hHeld => ?_)
            clear hK
            (try simp only [Act.put, List.setIfInBounds_toArray, List.set_cons_zero, List.set_cons_succ])
            refine wpAnyH_ready (rs := [20]) (by kernel_rfl) (by simp) ?_
            refine AllReadyH.cons rfl (fun K hK => ?_) AllReadyH.nil
            go_simp
            go_at_call 59
            (with_reducible refine (workers_any q ob rg pg pk HQ.out _).mono ?_)
            rintro x w5 ⟨wv, rfl, hX, hb⟩
            have hle_ := Nat.le_trans hw4 HBC.out.size
            have HWS := hide (hX.le hle_)
            have HBVs := hide (HBVs.out.below hb)
            have HPN := hide (HPN.out.below hb)
            have HHO := hide (HHO.out.below hb)
            have HCM := hide (HCM.out.below hb)
            have HAC := hide (own_below HAC.out hb)
            have HLB := hide (own_below HLB.out hb)
            have HBC := hide (bcall HBC.out hb)
            clear hb
            clear hle_
            (try go_simp)
            refine hK.out _ _ (by exact K14.out.below HBC.out) (fun hHeld => ?_)
            clear hK
            (try simp only [Act.put, List.setIfInBounds_toArray, List.set_cons_zero, List.set_cons_succ])
            refine wpAnyH_ready (rs := [22]) (by kernel_rfl) (by simp) ?_
            refine AllReadyH.cons rfl (fun K hK => ?_) AllReadyH.nil
            go_simp
            go_at_call 60
            (with_reducible refine (mutators_any q ob rg pg pk HQ.out _ (HP4.out.below HBC.out).rg HSM.out.s1).mono ?_)
            rintro x w5 ⟨uv, rfl, hX, hb⟩
            have hle_ := Nat.le_trans hw4 HBC.out.size
            have HMS := hide (hX.le hle_)
            have HBVs := hide (HBVs.out.below hb)
            have HPN := hide (HPN.out.below hb)
            have HHO := hide (HHO.out.below hb)
            have HCM := hide (HCM.out.below hb)
            have HAC := hide (own_below HAC.out hb)
            have HLB := hide (own_below HLB.out hb)
            have HWS := hide (HWS.out.below hb)
            have HBC := hide (bcall HBC.out hb)
            clear hb
            clear hle_
            (try go_simp)
            refine hK.out _ _ (by exact K14.out.below HBC.out) (fun hHeld => ?_)
            clear hK
            (try simp only [Act.put, List.setIfInBounds_toArray, List.set_cons_zero, List.set_cons_succ])
            refine tk 23 (h := ?_)
            refine wpAnyH_ready (rs := [24]) (by kernel_rfl) (by simp) ?_
            refine AllReadyH.cons rfl (fun K hK => ?_) AllReadyH.nil
            refine step_store_rowSa rfl 66 (.tmp 2) (.tmp 45) rfl (w.heap.size + 1) (stL (⟨q, q.sl, q.ob, newM q.wk.toNat q.cp.toNat (binsC q) (binsN 0 (fullC q)) (binsN (fullC q) (binsC q - fullC q)), [] :: chunk q.bn.toNat (binsC q) (greyL q), pGreys q, 0, cntF (pGreys q), 0, false, false, 0, List.replicate q.mu.toNat 0, lNew q.mu, (List.range q.wk.toNat).map (workerF q), q.rg.map mutatorF, 0, 0⟩ : Sq) ⟨ob', rg', pg', pk', b', mv, bv, av, bl', wv, uv⟩).toArray rfl rfl _ _ (K24.out.below HBC.out) (by kernel_rfl) rfl (stA_one _ _) ?_
            (try go_simp)
            refine hK.out _ _ (by exact bc_rowO (K14.out.below HBC.out) (by omega) _) (fun hHeld => ?_)
            clear hK
            (try simp only [Act.put, List.setIfInBounds_toArray, List.set_cons_zero, List.set_cons_succ])
            refine wpAnyH_done (by kernel_rfl) ?_ _
            go_wp2
            refine bodyPost_ret (results_row Tryz.results13 (w.heap.size + 1) rfl _ _ _ _ (setRow_heap _ _ _ _ _ _ (K24.out.below HBC.out)) Tryz.underlying66 rfl (by kernel_rfl)) rfl ?_
            have HNR := NewR.grown (v := ⟨ob', rg', pg', pk', b', mv, bv, av, bl', wv, uv⟩) (q := (⟨q, q.sl, q.ob, newM q.wk.toNat q.cp.toNat (binsC q) (binsN 0 (fullC q)) (binsN (fullC q) (binsC q - fullC q)), [] :: chunk q.bn.toNat (binsC q) (greyL q), pGreys q, 0, cntF (pGreys q), 0, false, false, 0, List.replicate q.mu.toNat 0, lNew q.mu, (List.range q.wk.toNat).map (workerF q), q.rg.map mutatorF, 0, 0⟩ : Sq)) ⟨HPN.out, HHO.out, HCM.out, HBVs.out, HAC.out, HLB.out, HWS.out, HMS.out⟩ (grown_row _ (w.heap.size + 1) (stL (⟨q, q.sl, q.ob, newM q.wk.toNat q.cp.toNat (binsC q) (binsN 0 (fullC q)) (binsN (fullC q) (binsC q - fullC q)), [] :: chunk q.bn.toNat (binsC q) (greyL q), pGreys q, 0, cntF (pGreys q), 0, false, false, 0, List.replicate q.mu.toNat 0, lNew q.mu, (List.range q.wk.toNat).map (workerF q), q.rg.map mutatorF, 0, 0⟩ : Sq) ⟨ob', rg', pg', pk', b', mv, bv, av, bl', wv, uv⟩).toArray) (by omega)
            exact ⟨_, rfl, HNR, below_setRow ((HB.out.trans (HBX.out.mono HB.out.size)).trans (HBC.out.mono (by omega))) (by omega) _⟩
          · skip
            go_simp
            go_at_call 58
            (with_reducible refine (lnew_r q.mu (by have := HRN.out; omega) (by have := HRN.out; omega) _).mono ?_)
            rintro x w5 ⟨bl', rfl, hX, hb⟩
            have hle_ := Nat.le_trans hw4 HBC.out.size
            have HLB := hide (own_base hX hle_)
            have HBVs := hide (HBVs.out.below hb)
            have HPN := hide (HPN.out.below hb)
            have HHO := hide (HHO.out.below hb)
            have HCM := hide (HCM.out.below hb)
            have HBC := hide (bcall HBC.out hb)
            clear hb
            clear hle_
            (try go_simp)
            refine hK.out _ _ (by exact K14.out.below HBC.out) (fun hHeld => ?_)
            clear hK
            (try simp only [Act.put, List.setIfInBounds_toArray, List.set_cons_zero, List.set_cons_succ])
            refine wpAnyH_ready (rs := [15, 20]) (by kernel_rfl) (by simp) ?_
            refine AllReadyH.cons rfl (fun K hK => ?_) (AllReadyH.cons rfl (fun K hK => ?_) AllReadyH.nil)
            · skip
              refine step_make_full _ rfl _ _ _ rfl w4.heap.size 3 i0 (.int .i64 0) 1 Tryz.underlying47 hi hz0 hz1 .i64 .i64 q.mu q.mu q.mu.toNat rfl rfl (by have := HRN.out; omega) (by have := HRN.out; omega) (by rw [hz2]; have := HRN.out; omega) (by have := HRN.out; unfold maxLen; omega) HBC.out.size ?_
              intro w5 av hX hgX
              have hb := below_none hgX
              have HAC := hide (own_base (acks_r hX) hw4)
              have HBVs := hide (HBVs.out.below hb)
              have HPN := hide (HPN.out.below hb)
              have HHO := hide (HHO.out.below hb)
              have HCM := hide (HCM.out.below hb)
              have HLB := hide (own_below HLB.out hb)
              have HBC := hide (bcall HBC.out hb)
              clear hb
              (try go_simp)
              refine hK.out _ _ (by exact K14.out.below HBC.out) (fun hHeld => ?_)
              clear hK
              (try simp only [Act.put, List.setIfInBounds_toArray, List.set_cons_zero, List.set_cons_succ])
              refine wpAnyH_ready (rs := [20]) (by kernel_rfl) (by simp) ?_
              refine AllReadyH.cons rfl (fun K hK => ?_) AllReadyH.nil
              go_simp
              go_at_call 59
              (with_reducible refine (workers_any q ob rg pg pk HQ.out _).mono ?_)
              rintro x w5 ⟨wv, rfl, hX, hb⟩
              have hle_ := Nat.le_trans hw4 HBC.out.size
              have HWS := hide (hX.le hle_)
              have HBVs := hide (HBVs.out.below hb)
              have HPN := hide (HPN.out.below hb)
              have HHO := hide (HHO.out.below hb)
              have HCM := hide (HCM.out.below hb)
              have HAC := hide (own_below HAC.out hb)
              have HLB := hide (own_below HLB.out hb)
              have HBC := hide (bcall HBC.out hb)
              clear hb
              clear hle_
              (try go_simp)
              refine hK.out _ _ (by exact K14.out.below HBC.out) (fun hHeld => ?_)
              clear hK
              (try simp only [Act.put, List.setIfInBounds_toArray, List.set_cons_zero, List.set_cons_succ])
              refine wpAnyH_ready (rs := [22]) (by kernel_rfl) (by simp) ?_
              refine AllReadyH.cons rfl (fun K hK => ?_) AllReadyH.nil
              go_simp
              go_at_call 60
              (with_reducible refine (mutators_any q ob rg pg pk HQ.out _ (HP4.out.below HBC.out).rg HSM.out.s1).mono ?_)
              rintro x w5 ⟨uv, rfl, hX, hb⟩
              have hle_ := Nat.le_trans hw4 HBC.out.size
              have HMS := hide (hX.le hle_)
              have HBVs := hide (HBVs.out.below hb)
              have HPN := hide (HPN.out.below hb)
              have HHO := hide (HHO.out.below hb)
              have HCM := hide (HCM.out.below hb)
              have HAC := hide (own_below HAC.out hb)
              have HLB := hide (own_below HLB.out hb)
              have HWS := hide (HWS.out.below hb)
              have HBC := hide (bcall HBC.out hb)
              clear hb
              clear hle_
              (try go_simp)
              refine hK.out _ _ (by exact K14.out.below HBC.out) (fun hHeld => ?_)
              clear hK
              (try simp only [Act.put, List.setIfInBounds_toArray, List.set_cons_zero, List.set_cons_succ])
              refine tk 23 (h := ?_)
              refine wpAnyH_ready (rs := [24]) (by kernel_rfl) (by simp) ?_
              refine AllReadyH.cons rfl (fun K hK => ?_) AllReadyH.nil
              refine step_store_rowSa rfl 66 (.tmp 2) (.tmp 45) rfl (w.heap.size + 1) (stL (⟨q, q.sl, q.ob, newM q.wk.toNat q.cp.toNat (binsC q) (binsN 0 (fullC q)) (binsN (fullC q) (binsC q - fullC q)), [] :: chunk q.bn.toNat (binsC q) (greyL q), pGreys q, 0, cntF (pGreys q), 0, false, false, 0, List.replicate q.mu.toNat 0, lNew q.mu, (List.range q.wk.toNat).map (workerF q), q.rg.map mutatorF, 0, 0⟩ : Sq) ⟨ob', rg', pg', pk', b', mv, bv, av, bl', wv, uv⟩).toArray rfl rfl _ _ (K24.out.below HBC.out) (by kernel_rfl) rfl (stA_one _ _) ?_
              (try go_simp)
              refine hK.out _ _ (by exact bc_rowO (K14.out.below HBC.out) (by omega) _) (fun hHeld => ?_)
              clear hK
              (try simp only [Act.put, List.setIfInBounds_toArray, List.set_cons_zero, List.set_cons_succ])
              refine wpAnyH_done (by kernel_rfl) ?_ _
              go_wp2
              refine bodyPost_ret (results_row Tryz.results13 (w.heap.size + 1) rfl _ _ _ _ (setRow_heap _ _ _ _ _ _ (K24.out.below HBC.out)) Tryz.underlying66 rfl (by kernel_rfl)) rfl ?_
              have HNR := NewR.grown (v := ⟨ob', rg', pg', pk', b', mv, bv, av, bl', wv, uv⟩) (q := (⟨q, q.sl, q.ob, newM q.wk.toNat q.cp.toNat (binsC q) (binsN 0 (fullC q)) (binsN (fullC q) (binsC q - fullC q)), [] :: chunk q.bn.toNat (binsC q) (greyL q), pGreys q, 0, cntF (pGreys q), 0, false, false, 0, List.replicate q.mu.toNat 0, lNew q.mu, (List.range q.wk.toNat).map (workerF q), q.rg.map mutatorF, 0, 0⟩ : Sq)) ⟨HPN.out, HHO.out, HCM.out, HBVs.out, HAC.out, HLB.out, HWS.out, HMS.out⟩ (grown_row _ (w.heap.size + 1) (stL (⟨q, q.sl, q.ob, newM q.wk.toNat q.cp.toNat (binsC q) (binsN 0 (fullC q)) (binsN (fullC q) (binsC q - fullC q)), [] :: chunk q.bn.toNat (binsC q) (greyL q), pGreys q, 0, cntF (pGreys q), 0, false, false, 0, List.replicate q.mu.toNat 0, lNew q.mu, (List.range q.wk.toNat).map (workerF q), q.rg.map mutatorF, 0, 0⟩ : Sq) ⟨ob', rg', pg', pk', b', mv, bv, av, bl', wv, uv⟩).toArray) (by omega)
              exact ⟨_, rfl, HNR, below_setRow ((HB.out.trans (HBX.out.mono HB.out.size)).trans (HBC.out.mono (by omega))) (by omega) _⟩
            · skip
              go_simp
              go_at_call 59
              (with_reducible refine (workers_any q ob rg pg pk HQ.out _).mono ?_)
              rintro x w5 ⟨wv, rfl, hX, hb⟩
              have hle_ := Nat.le_trans hw4 HBC.out.size
              have HWS := hide (hX.le hle_)
              have HBVs := hide (HBVs.out.below hb)
              have HPN := hide (HPN.out.below hb)
              have HHO := hide (HHO.out.below hb)
              have HCM := hide (HCM.out.below hb)
              have HLB := hide (own_below HLB.out hb)
              have HBC := hide (bcall HBC.out hb)
              clear hb
              clear hle_
              (try go_simp)
              refine hK.out _ _ (by exact K14.out.below HBC.out) (fun hHeld => ?_)
              clear hK
              (try simp only [Act.put, List.setIfInBounds_toArray, List.set_cons_zero, List.set_cons_succ])
              refine wpAnyH_ready (rs := [15, 22]) (by kernel_rfl) (by simp) ?_
              refine AllReadyH.cons rfl (fun K hK => ?_) (AllReadyH.cons rfl (fun K hK => ?_) AllReadyH.nil)
              · skip
                refine step_make_full _ rfl _ _ _ rfl w4.heap.size 3 i0 (.int .i64 0) 1 Tryz.underlying47 hi hz0 hz1 .i64 .i64 q.mu q.mu q.mu.toNat rfl rfl (by have := HRN.out; omega) (by have := HRN.out; omega) (by rw [hz2]; have := HRN.out; omega) (by have := HRN.out; unfold maxLen; omega) HBC.out.size ?_
                intro w5 av hX hgX
                have hb := below_none hgX
                have HAC := hide (own_base (acks_r hX) hw4)
                have HBVs := hide (HBVs.out.below hb)
                have HPN := hide (HPN.out.below hb)
                have HHO := hide (HHO.out.below hb)
                have HCM := hide (HCM.out.below hb)
                have HLB := hide (own_below HLB.out hb)
                have HWS := hide (HWS.out.below hb)
                have HBC := hide (bcall HBC.out hb)
                clear hb
                (try go_simp)
                refine hK.out _ _ (by exact K14.out.below HBC.out) (fun hHeld => ?_)
                clear hK
                (try simp only [Act.put, List.setIfInBounds_toArray, List.set_cons_zero, List.set_cons_succ])
                refine wpAnyH_ready (rs := [22]) (by kernel_rfl) (by simp) ?_
                refine AllReadyH.cons rfl (fun K hK => ?_) AllReadyH.nil
                go_simp
                go_at_call 60
                (with_reducible refine (mutators_any q ob rg pg pk HQ.out _ (HP4.out.below HBC.out).rg HSM.out.s1).mono ?_)
                rintro x w5 ⟨uv, rfl, hX, hb⟩
                have hle_ := Nat.le_trans hw4 HBC.out.size
                have HMS := hide (hX.le hle_)
                have HBVs := hide (HBVs.out.below hb)
                have HPN := hide (HPN.out.below hb)
                have HHO := hide (HHO.out.below hb)
                have HCM := hide (HCM.out.below hb)
                have HAC := hide (own_below HAC.out hb)
                have HLB := hide (own_below HLB.out hb)
                have HWS := hide (HWS.out.below hb)
                have HBC := hide (bcall HBC.out hb)
                clear hb
                clear hle_
                (try go_simp)
                refine hK.out _ _ (by exact K14.out.below HBC.out) (fun hHeld => ?_)
                clear hK
                (try simp only [Act.put, List.setIfInBounds_toArray, List.set_cons_zero, List.set_cons_succ])
                refine tk 23 (h := ?_)
                refine wpAnyH_ready (rs := [24]) (by kernel_rfl) (by simp) ?_
                refine AllReadyH.cons rfl (fun K hK => ?_) AllReadyH.nil
                refine step_store_rowSa rfl 66 (.tmp 2) (.tmp 45) rfl (w.heap.size + 1) (stL (⟨q, q.sl, q.ob, newM q.wk.toNat q.cp.toNat (binsC q) (binsN 0 (fullC q)) (binsN (fullC q) (binsC q - fullC q)), [] :: chunk q.bn.toNat (binsC q) (greyL q), pGreys q, 0, cntF (pGreys q), 0, false, false, 0, List.replicate q.mu.toNat 0, lNew q.mu, (List.range q.wk.toNat).map (workerF q), q.rg.map mutatorF, 0, 0⟩ : Sq) ⟨ob', rg', pg', pk', b', mv, bv, av, bl', wv, uv⟩).toArray rfl rfl _ _ (K24.out.below HBC.out) (by kernel_rfl) rfl (stA_one _ _) ?_
                (try go_simp)
                refine hK.out _ _ (by exact bc_rowO (K14.out.below HBC.out) (by omega) _) (fun hHeld => ?_)
                clear hK
                (try simp only [Act.put, List.setIfInBounds_toArray, List.set_cons_zero, List.set_cons_succ])
                refine wpAnyH_done (by kernel_rfl) ?_ _
                go_wp2
                refine bodyPost_ret (results_row Tryz.results13 (w.heap.size + 1) rfl _ _ _ _ (setRow_heap _ _ _ _ _ _ (K24.out.below HBC.out)) Tryz.underlying66 rfl (by kernel_rfl)) rfl ?_
                have HNR := NewR.grown (v := ⟨ob', rg', pg', pk', b', mv, bv, av, bl', wv, uv⟩) (q := (⟨q, q.sl, q.ob, newM q.wk.toNat q.cp.toNat (binsC q) (binsN 0 (fullC q)) (binsN (fullC q) (binsC q - fullC q)), [] :: chunk q.bn.toNat (binsC q) (greyL q), pGreys q, 0, cntF (pGreys q), 0, false, false, 0, List.replicate q.mu.toNat 0, lNew q.mu, (List.range q.wk.toNat).map (workerF q), q.rg.map mutatorF, 0, 0⟩ : Sq)) ⟨HPN.out, HHO.out, HCM.out, HBVs.out, HAC.out, HLB.out, HWS.out, HMS.out⟩ (grown_row _ (w.heap.size + 1) (stL (⟨q, q.sl, q.ob, newM q.wk.toNat q.cp.toNat (binsC q) (binsN 0 (fullC q)) (binsN (fullC q) (binsC q - fullC q)), [] :: chunk q.bn.toNat (binsC q) (greyL q), pGreys q, 0, cntF (pGreys q), 0, false, false, 0, List.replicate q.mu.toNat 0, lNew q.mu, (List.range q.wk.toNat).map (workerF q), q.rg.map mutatorF, 0, 0⟩ : Sq) ⟨ob', rg', pg', pk', b', mv, bv, av, bl', wv, uv⟩).toArray) (by omega)
                exact ⟨_, rfl, HNR, below_setRow ((HB.out.trans (HBX.out.mono HB.out.size)).trans (HBC.out.mono (by omega))) (by omega) _⟩
              · skip
                go_simp
                go_at_call 60
                (with_reducible refine (mutators_any q ob rg pg pk HQ.out _ (HP4.out.below HBC.out).rg HSM.out.s1).mono ?_)
                rintro x w5 ⟨uv, rfl, hX, hb⟩
                have hle_ := Nat.le_trans hw4 HBC.out.size
                have HMS := hide (hX.le hle_)
                have HBVs := hide (HBVs.out.below hb)
                have HPN := hide (HPN.out.below hb)
                have HHO := hide (HHO.out.below hb)
                have HCM := hide (HCM.out.below hb)
                have HLB := hide (own_below HLB.out hb)
                have HWS := hide (HWS.out.below hb)
                have HBC := hide (bcall HBC.out hb)
                clear hb
                clear hle_
                (try go_simp)
                refine hK.out _ _ (by exact K14.out.below HBC.out) (fun hHeld => ?_)
                clear hK
                (try simp only [Act.put, List.setIfInBounds_toArray, List.set_cons_zero, List.set_cons_succ])
                refine wpAnyH_ready (rs := [15]) (by kernel_rfl) (by simp) ?_
                refine AllReadyH.cons rfl (fun K hK => ?_) AllReadyH.nil
                refine step_make_full _ rfl _ _ _ rfl w4.heap.size 3 i0 (.int .i64 0) 1 Tryz.underlying47 hi hz0 hz1 .i64 .i64 q.mu q.mu q.mu.toNat rfl rfl (by have := HRN.out; omega) (by have := HRN.out; omega) (by rw [hz2]; have := HRN.out; omega) (by have := HRN.out; unfold maxLen; omega) HBC.out.size ?_
                intro w5 av hX hgX
                have hb := below_none hgX
                have HAC := hide (own_base (acks_r hX) hw4)
                have HBVs := hide (HBVs.out.below hb)
                have HPN := hide (HPN.out.below hb)
                have HHO := hide (HHO.out.below hb)
                have HCM := hide (HCM.out.below hb)
                have HLB := hide (own_below HLB.out hb)
                have HWS := hide (HWS.out.below hb)
                have HMS := hide (HMS.out.below hb)
                have HBC := hide (bcall HBC.out hb)
                clear hb
                (try go_simp)
                refine hK.out _ _ (by exact K14.out.below HBC.out) (fun hHeld => ?_)
                clear hK
                (try simp only [Act.put, List.setIfInBounds_toArray, List.set_cons_zero, List.set_cons_succ])
                refine tk 23 (h := ?_)
                refine wpAnyH_ready (rs := [24]) (by kernel_rfl) (by simp) ?_
                refine AllReadyH.cons rfl (fun K hK => ?_) AllReadyH.nil
                refine step_store_rowSa rfl 66 (.tmp 2) (.tmp 45) rfl (w.heap.size + 1) (stL (⟨q, q.sl, q.ob, newM q.wk.toNat q.cp.toNat (binsC q) (binsN 0 (fullC q)) (binsN (fullC q) (binsC q - fullC q)), [] :: chunk q.bn.toNat (binsC q) (greyL q), pGreys q, 0, cntF (pGreys q), 0, false, false, 0, List.replicate q.mu.toNat 0, lNew q.mu, (List.range q.wk.toNat).map (workerF q), q.rg.map mutatorF, 0, 0⟩ : Sq) ⟨ob', rg', pg', pk', b', mv, bv, av, bl', wv, uv⟩).toArray rfl rfl _ _ (K24.out.below HBC.out) (by kernel_rfl) rfl (stA_one _ _) ?_
                (try go_simp)
                refine hK.out _ _ (by exact bc_rowO (K14.out.below HBC.out) (by omega) _) (fun hHeld => ?_)
                clear hK
                (try simp only [Act.put, List.setIfInBounds_toArray, List.set_cons_zero, List.set_cons_succ])
                refine wpAnyH_done (by kernel_rfl) ?_ _
                go_wp2
                refine bodyPost_ret (results_row Tryz.results13 (w.heap.size + 1) rfl _ _ _ _ (setRow_heap _ _ _ _ _ _ (K24.out.below HBC.out)) Tryz.underlying66 rfl (by kernel_rfl)) rfl ?_
                have HNR := NewR.grown (v := ⟨ob', rg', pg', pk', b', mv, bv, av, bl', wv, uv⟩) (q := (⟨q, q.sl, q.ob, newM q.wk.toNat q.cp.toNat (binsC q) (binsN 0 (fullC q)) (binsN (fullC q) (binsC q - fullC q)), [] :: chunk q.bn.toNat (binsC q) (greyL q), pGreys q, 0, cntF (pGreys q), 0, false, false, 0, List.replicate q.mu.toNat 0, lNew q.mu, (List.range q.wk.toNat).map (workerF q), q.rg.map mutatorF, 0, 0⟩ : Sq)) ⟨HPN.out, HHO.out, HCM.out, HBVs.out, HAC.out, HLB.out, HWS.out, HMS.out⟩ (grown_row _ (w.heap.size + 1) (stL (⟨q, q.sl, q.ob, newM q.wk.toNat q.cp.toNat (binsC q) (binsN 0 (fullC q)) (binsN (fullC q) (binsC q - fullC q)), [] :: chunk q.bn.toNat (binsC q) (greyL q), pGreys q, 0, cntF (pGreys q), 0, false, false, 0, List.replicate q.mu.toNat 0, lNew q.mu, (List.range q.wk.toNat).map (workerF q), q.rg.map mutatorF, 0, 0⟩ : Sq) ⟨ob', rg', pg', pk', b', mv, bv, av, bl', wv, uv⟩).toArray) (by omega)
                exact ⟨_, rfl, HNR, below_setRow ((HB.out.trans (HBX.out.mono HB.out.size)).trans (HBC.out.mono (by omega))) (by omega) _⟩
        · skip
          refine step_make_full _ rfl _ _ _ rfl w4.heap.size 3 i0 (.int .i64 0) 1 Tryz.underlying47 hi hz0 hz1 .i64 .i64 q.mu q.mu q.mu.toNat rfl rfl (by have := HRN.out; omega) (by have := HRN.out; omega) (by rw [hz2]; have := HRN.out; omega) (by have := HRN.out; unfold maxLen; omega) HBC.out.size ?_
          intro w5 av hX hgX
          have hb := below_none hgX
          have HAC := hide (own_base (acks_r hX) hw4)
          have HBVs := hide (HBVs.out.below hb)
          have HPN := hide (HPN.out.below hb)
          have HHO := hide (HHO.out.below hb)
          have HCM := hide (HCM.out.below hb)
          have HBC := hide (bcall HBC.out hb)
          clear hb
          (try go_simp)
          refine hK.out _ _ (by exact K14.out.below HBC.out) (fun hHeld => ?_)
          clear hK
          (try simp only [Act.put, List.setIfInBounds_toArray, List.set_cons_zero, List.set_cons_succ])
          refine wpAnyH_ready (rs := [12]) (by kernel_rfl) (by simp) ?_
          refine AllReadyH.cons rfl (fun K hK => ?_) AllReadyH.nil
          go_simp
          go_at_call 33
          (with_reducible refine (count_r (pGreys q) HGL.out _).mono ?_)
          rintro x w5 ⟨rfl, hb⟩
          have hle_ := Nat.le_trans hw4 HBC.out.size
          have HBVs := hide (HBVs.out.below hb)
          have HPN := hide (HPN.out.below hb)
          have HHO := hide (HHO.out.below hb)
          have HCM := hide (HCM.out.below hb)
          have HAC := hide (own_below HAC.out hb)
          have HBC := hide (bcall HBC.out hb)
          clear hb
          clear hle_
          (try go_simp)
          refine hK.out _ _ (by exact K14.out.below HBC.out) (fun hHeld => ?_)
          clear hK
          (try simp only [Act.put, List.setIfInBounds_toArray, List.set_cons_zero, List.set_cons_succ])
          refine wpAnyH_ready (rs := [18]) (by kernel_rfl) (by simp) ?_
          refine AllReadyH.cons rfl (fun K hK => ?_) AllReadyH.nil
          go_simp
          go_at_call 58
          (with_reducible refine (lnew_r q.mu (by have := HRN.out; omega) (by have := HRN.out; omega) _).mono ?_)
          rintro x w5 ⟨bl', rfl, hX, hb⟩
          have hle_ := Nat.le_trans hw4 HBC.out.size
          have HLB := hide (own_base hX hle_)
          have HBVs := hide (HBVs.out.below hb)
          have HPN := hide (HPN.out.below hb)
          have HHO := hide (HHO.out.below hb)
          have HCM := hide (HCM.out.below hb)
          have HAC := hide (own_below HAC.out hb)
          have HBC := hide (bcall HBC.out hb)
          clear hb
          clear hle_
          (try go_simp)
          refine hK.out _ _ (by exact K14.out.below HBC.out) (fun hHeld => ?_)
          clear hK
          (try simp only [Act.put, List.setIfInBounds_toArray, List.set_cons_zero, List.set_cons_succ])
          refine wpAnyH_ready (rs := [20]) (by kernel_rfl) (by simp) ?_
          refine AllReadyH.cons rfl (fun K hK => ?_) AllReadyH.nil
          go_simp
          go_at_call 59
          (with_reducible refine (workers_any q ob rg pg pk HQ.out _).mono ?_)
          rintro x w5 ⟨wv, rfl, hX, hb⟩
          have hle_ := Nat.le_trans hw4 HBC.out.size
          have HWS := hide (hX.le hle_)
          have HBVs := hide (HBVs.out.below hb)
          have HPN := hide (HPN.out.below hb)
          have HHO := hide (HHO.out.below hb)
          have HCM := hide (HCM.out.below hb)
          have HAC := hide (own_below HAC.out hb)
          have HLB := hide (own_below HLB.out hb)
          have HBC := hide (bcall HBC.out hb)
          clear hb
          clear hle_
          (try go_simp)
          refine hK.out _ _ (by exact K14.out.below HBC.out) (fun hHeld => ?_)
          clear hK
          (try simp only [Act.put, List.setIfInBounds_toArray, List.set_cons_zero, List.set_cons_succ])
          refine wpAnyH_ready (rs := [22]) (by kernel_rfl) (by simp) ?_
          refine AllReadyH.cons rfl (fun K hK => ?_) AllReadyH.nil
          go_simp
          go_at_call 60
          (with_reducible refine (mutators_any q ob rg pg pk HQ.out _ (HP4.out.below HBC.out).rg HSM.out.s1).mono ?_)
          rintro x w5 ⟨uv, rfl, hX, hb⟩
          have hle_ := Nat.le_trans hw4 HBC.out.size
          have HMS := hide (hX.le hle_)
          have HBVs := hide (HBVs.out.below hb)
          have HPN := hide (HPN.out.below hb)
          have HHO := hide (HHO.out.below hb)
          have HCM := hide (HCM.out.below hb)
          have HAC := hide (own_below HAC.out hb)
          have HLB := hide (own_below HLB.out hb)
          have HWS := hide (HWS.out.below hb)
          have HBC := hide (bcall HBC.out hb)
          clear hb
          clear hle_
          (try go_simp)
          refine hK.out _ _ (by exact K14.out.below HBC.out) (fun hHeld => ?_)
          clear hK
          (try simp only [Act.put, List.setIfInBounds_toArray, List.set_cons_zero, List.set_cons_succ])
          refine tk 23 (h := ?_)
          refine wpAnyH_ready (rs := [24]) (by kernel_rfl) (by simp) ?_
          refine AllReadyH.cons rfl (fun K hK => ?_) AllReadyH.nil
          refine step_store_rowSa rfl 66 (.tmp 2) (.tmp 45) rfl (w.heap.size + 1) (stL (⟨q, q.sl, q.ob, newM q.wk.toNat q.cp.toNat (binsC q) (binsN 0 (fullC q)) (binsN (fullC q) (binsC q - fullC q)), [] :: chunk q.bn.toNat (binsC q) (greyL q), pGreys q, 0, cntF (pGreys q), 0, false, false, 0, List.replicate q.mu.toNat 0, lNew q.mu, (List.range q.wk.toNat).map (workerF q), q.rg.map mutatorF, 0, 0⟩ : Sq) ⟨ob', rg', pg', pk', b', mv, bv, av, bl', wv, uv⟩).toArray rfl rfl _ _ (K24.out.below HBC.out) (by kernel_rfl) rfl (stA_one _ _) ?_
          (try go_simp)
          refine hK.out _ _ (by exact bc_rowO (K14.out.below HBC.out) (by omega) _) (fun hHeld => ?_)
          clear hK
          (try simp only [Act.put, List.setIfInBounds_toArray, List.set_cons_zero, List.set_cons_succ])
          refine wpAnyH_done (by kernel_rfl) ?_ _
          go_wp2
          refine bodyPost_ret (results_row Tryz.results13 (w.heap.size + 1) rfl _ _ _ _ (setRow_heap _ _ _ _ _ _ (K24.out.below HBC.out)) Tryz.underlying66 rfl (by kernel_rfl)) rfl ?_
          have HNR := NewR.grown (v := ⟨ob', rg', pg', pk', b', mv, bv, av, bl', wv, uv⟩) (q := (⟨q, q.sl, q.ob, newM q.wk.toNat q.cp.toNat (binsC q) (binsN 0 (fullC q)) (binsN (fullC q) (binsC q - fullC q)), [] :: chunk q.bn.toNat (binsC q) (greyL q), pGreys q, 0, cntF (pGreys q), 0, false, false, 0, List.replicate q.mu.toNat 0, lNew q.mu, (List.range q.wk.toNat).map (workerF q), q.rg.map mutatorF, 0, 0⟩ : Sq)) ⟨HPN.out, HHO.out, HCM.out, HBVs.out, HAC.out, HLB.out, HWS.out, HMS.out⟩ (grown_row _ (w.heap.size + 1) (stL (⟨q, q.sl, q.ob, newM q.wk.toNat q.cp.toNat (binsC q) (binsN 0 (fullC q)) (binsN (fullC q) (binsC q - fullC q)), [] :: chunk q.bn.toNat (binsC q) (greyL q), pGreys q, 0, cntF (pGreys q), 0, false, false, 0, List.replicate q.mu.toNat 0, lNew q.mu, (List.range q.wk.toNat).map (workerF q), q.rg.map mutatorF, 0, 0⟩ : Sq) ⟨ob', rg', pg', pk', b', mv, bv, av, bl', wv, uv⟩).toArray) (by omega)
          exact ⟨_, rfl, HNR, below_setRow ((HB.out.trans (HBX.out.mono HB.out.size)).trans (HBC.out.mono (by omega))) (by omega) _⟩
      · skip
        refine step_make_full _ rfl _ _ _ rfl w4.heap.size 3 i0 (.int .i64 0) 1 Tryz.underlying47 hi hz0 hz1 .i64 .i64 q.mu q.mu q.mu.toNat rfl rfl (by have := HRN.out; omega) (by have := HRN.out; omega) (by rw [hz2]; have := HRN.out; omega) (by have := HRN.out; unfold maxLen; omega) HBC.out.size ?_
        intro w5 av hX hgX
        have hb := below_none hgX
        have HAC := hide (own_base (acks_r hX) hw4)
        have HBVs := hide (HBVs.out.below hb)
        have HPN := hide (HPN.out.below hb)
        have HHO := hide (HHO.out.below hb)
        have HBC := hide (bcall HBC.out hb)
        clear hb
        (try go_simp)
        refine hK.out _ _ (by exact K14.out.below HBC.out) (fun hHeld => ?_)
        clear hK
        (try simp only [Act.put, List.setIfInBounds_toArray, List.set_cons_zero, List.set_cons_succ])
        refine wpAnyH_ready (rs := [7]) (by kernel_rfl) (by simp) ?_
        refine AllReadyH.cons rfl (fun K hK => ?_) AllReadyH.nil
        go_simp
        go_at_call 57
        (with_reducible refine (cells_r q ob rg pg pk HQ.out (fullC q) HFF.out fI HFI.out _).mono ?_)
        rintro x w5 ⟨mv, rfl, hX, hb⟩
        have hle_ := Nat.le_trans hw4 HBC.out.size
        have HCM := hide (hX.le hle_)
        have HBVs := hide (HBVs.out.below hb)
        have HPN := hide (HPN.out.below hb)
        have HHO := hide (HHO.out.below hb)
        have HAC := hide (own_below HAC.out hb)
        have HBC := hide (bcall HBC.out hb)
        clear hb
        clear hle_
        (try go_simp)
        refine hK.out _ _ (by exact K14.out.below HBC.out) (fun hHeld => ?_)
        clear hK
        (try simp only [Act.put, List.setIfInBounds_toArray, List.set_cons_zero, List.set_cons_succ])
        refine wpAnyH_ready (rs := [12]) (by kernel_rfl) (by simp) ?_
        refine AllReadyH.cons rfl (fun K hK => ?_) AllReadyH.nil
        go_simp
        go_at_call 33
        (with_reducible refine (count_r (pGreys q) HGL.out _).mono ?_)
        rintro x w5 ⟨rfl, hb⟩
        have hle_ := Nat.le_trans hw4 HBC.out.size
        have HBVs := hide (HBVs.out.below hb)
        have HPN := hide (HPN.out.below hb)
        have HHO := hide (HHO.out.below hb)
        have HCM := hide (HCM.out.below hb)
        have HAC := hide (own_below HAC.out hb)
        have HBC := hide (bcall HBC.out hb)
        clear hb
        clear hle_
        (try go_simp)
        refine hK.out _ _ (by exact K14.out.below HBC.out) (fun hHeld => ?_)
        clear hK
        (try simp only [Act.put, List.setIfInBounds_toArray, List.set_cons_zero, List.set_cons_succ])
        refine wpAnyH_ready (rs := [18]) (by kernel_rfl) (by simp) ?_
        refine AllReadyH.cons rfl (fun K hK => ?_) AllReadyH.nil
        go_simp
        go_at_call 58
        (with_reducible refine (lnew_r q.mu (by have := HRN.out; omega) (by have := HRN.out; omega) _).mono ?_)
        rintro x w5 ⟨bl', rfl, hX, hb⟩
        have hle_ := Nat.le_trans hw4 HBC.out.size
        have HLB := hide (own_base hX hle_)
        have HBVs := hide (HBVs.out.below hb)
        have HPN := hide (HPN.out.below hb)
        have HHO := hide (HHO.out.below hb)
        have HCM := hide (HCM.out.below hb)
        have HAC := hide (own_below HAC.out hb)
        have HBC := hide (bcall HBC.out hb)
        clear hb
        clear hle_
        (try go_simp)
        refine hK.out _ _ (by exact K14.out.below HBC.out) (fun hHeld => ?_)
        clear hK
        (try simp only [Act.put, List.setIfInBounds_toArray, List.set_cons_zero, List.set_cons_succ])
        refine wpAnyH_ready (rs := [20]) (by kernel_rfl) (by simp) ?_
        refine AllReadyH.cons rfl (fun K hK => ?_) AllReadyH.nil
        go_simp
        go_at_call 59
        (with_reducible refine (workers_any q ob rg pg pk HQ.out _).mono ?_)
        rintro x w5 ⟨wv, rfl, hX, hb⟩
        have hle_ := Nat.le_trans hw4 HBC.out.size
        have HWS := hide (hX.le hle_)
        have HBVs := hide (HBVs.out.below hb)
        have HPN := hide (HPN.out.below hb)
        have HHO := hide (HHO.out.below hb)
        have HCM := hide (HCM.out.below hb)
        have HAC := hide (own_below HAC.out hb)
        have HLB := hide (own_below HLB.out hb)
        have HBC := hide (bcall HBC.out hb)
        clear hb
        clear hle_
        (try go_simp)
        refine hK.out _ _ (by exact K14.out.below HBC.out) (fun hHeld => ?_)
        clear hK
        (try simp only [Act.put, List.setIfInBounds_toArray, List.set_cons_zero, List.set_cons_succ])
        refine wpAnyH_ready (rs := [22]) (by kernel_rfl) (by simp) ?_
        refine AllReadyH.cons rfl (fun K hK => ?_) AllReadyH.nil
        go_simp
        go_at_call 60
        (with_reducible refine (mutators_any q ob rg pg pk HQ.out _ (HP4.out.below HBC.out).rg HSM.out.s1).mono ?_)
        rintro x w5 ⟨uv, rfl, hX, hb⟩
        have hle_ := Nat.le_trans hw4 HBC.out.size
        have HMS := hide (hX.le hle_)
        have HBVs := hide (HBVs.out.below hb)
        have HPN := hide (HPN.out.below hb)
        have HHO := hide (HHO.out.below hb)
        have HCM := hide (HCM.out.below hb)
        have HAC := hide (own_below HAC.out hb)
        have HLB := hide (own_below HLB.out hb)
        have HWS := hide (HWS.out.below hb)
        have HBC := hide (bcall HBC.out hb)
        clear hb
        clear hle_
        (try go_simp)
        refine hK.out _ _ (by exact K14.out.below HBC.out) (fun hHeld => ?_)
        clear hK
        (try simp only [Act.put, List.setIfInBounds_toArray, List.set_cons_zero, List.set_cons_succ])
        refine tk 23 (h := ?_)
        refine wpAnyH_ready (rs := [24]) (by kernel_rfl) (by simp) ?_
        refine AllReadyH.cons rfl (fun K hK => ?_) AllReadyH.nil
        refine step_store_rowSa rfl 66 (.tmp 2) (.tmp 45) rfl (w.heap.size + 1) (stL (⟨q, q.sl, q.ob, newM q.wk.toNat q.cp.toNat (binsC q) (binsN 0 (fullC q)) (binsN (fullC q) (binsC q - fullC q)), [] :: chunk q.bn.toNat (binsC q) (greyL q), pGreys q, 0, cntF (pGreys q), 0, false, false, 0, List.replicate q.mu.toNat 0, lNew q.mu, (List.range q.wk.toNat).map (workerF q), q.rg.map mutatorF, 0, 0⟩ : Sq) ⟨ob', rg', pg', pk', b', mv, bv, av, bl', wv, uv⟩).toArray rfl rfl _ _ (K24.out.below HBC.out) (by kernel_rfl) rfl (stA_one _ _) ?_
        (try go_simp)
        refine hK.out _ _ (by exact bc_rowO (K14.out.below HBC.out) (by omega) _) (fun hHeld => ?_)
        clear hK
        (try simp only [Act.put, List.setIfInBounds_toArray, List.set_cons_zero, List.set_cons_succ])
        refine wpAnyH_done (by kernel_rfl) ?_ _
        go_wp2
        refine bodyPost_ret (results_row Tryz.results13 (w.heap.size + 1) rfl _ _ _ _ (setRow_heap _ _ _ _ _ _ (K24.out.below HBC.out)) Tryz.underlying66 rfl (by kernel_rfl)) rfl ?_
        have HNR := NewR.grown (v := ⟨ob', rg', pg', pk', b', mv, bv, av, bl', wv, uv⟩) (q := (⟨q, q.sl, q.ob, newM q.wk.toNat q.cp.toNat (binsC q) (binsN 0 (fullC q)) (binsN (fullC q) (binsC q - fullC q)), [] :: chunk q.bn.toNat (binsC q) (greyL q), pGreys q, 0, cntF (pGreys q), 0, false, false, 0, List.replicate q.mu.toNat 0, lNew q.mu, (List.range q.wk.toNat).map (workerF q), q.rg.map mutatorF, 0, 0⟩ : Sq)) ⟨HPN.out, HHO.out, HCM.out, HBVs.out, HAC.out, HLB.out, HWS.out, HMS.out⟩ (grown_row _ (w.heap.size + 1) (stL (⟨q, q.sl, q.ob, newM q.wk.toNat q.cp.toNat (binsC q) (binsN 0 (fullC q)) (binsN (fullC q) (binsC q - fullC q)), [] :: chunk q.bn.toNat (binsC q) (greyL q), pGreys q, 0, cntF (pGreys q), 0, false, false, 0, List.replicate q.mu.toNat 0, lNew q.mu, (List.range q.wk.toNat).map (workerF q), q.rg.map mutatorF, 0, 0⟩ : Sq) ⟨ob', rg', pg', pk', b', mv, bv, av, bl', wv, uv⟩).toArray) (by omega)
        exact ⟨_, rfl, HNR, below_setRow ((HB.out.trans (HBX.out.mono HB.out.size)).trans (HBC.out.mono (by omega))) (by omega) _⟩
    · skip
      refine step_make_full _ rfl _ _ _ rfl w4.heap.size 3 i0 (.int .i64 0) 1 Tryz.underlying47 hi hz0 hz1 .i64 .i64 q.mu q.mu q.mu.toNat rfl rfl (by have := HRN.out; omega) (by have := HRN.out; omega) (by rw [hz2]; have := HRN.out; omega) (by have := HRN.out; unfold maxLen; omega) HBC.out.size ?_
      intro w5 av hX hgX
      have hb := below_none hgX
      have HAC := hide (own_base (acks_r hX) hw4)
      have HBVs := hide (HBVs.out.below hb)
      have HPN := hide (HPN.out.below hb)
      have HBC := hide (bcall HBC.out hb)
      clear hb
      (try go_simp)
      refine hK.out _ _ (by exact K14.out.below HBC.out) (fun hHeld => ?_)
      clear hK
      (try simp only [Act.put, List.setIfInBounds_toArray, List.set_cons_zero, List.set_cons_succ])
      refine wpAnyH_ready (rs := [4]) (by kernel_rfl) (by simp) ?_
      refine AllReadyH.cons rfl (fun K hK => ?_) AllReadyH.nil
      go_simp
      go_at_call 56
      (with_reducible refine (copiedHeap_any q.sl ob q.ob _ (HP4.out.below HBC.out).ob HSM.out.s0 HSM.out.b0).mono ?_)
      rintro x w5 ⟨b', rfl, hX, hb⟩
      have hle_ := Nat.le_trans hw4 HBC.out.size
      have HHO := hide (hX.le hle_)
      have HBVs := hide (HBVs.out.below hb)
      have HPN := hide (HPN.out.below hb)
      have HAC := hide (own_below HAC.out hb)
      have HBC := hide (bcall HBC.out hb)
      clear hb
      clear hle_
      (try go_simp)
      refine hK.out _ _ (by exact K14.out.below HBC.out) (fun hHeld => ?_)
      clear hK
      (try simp only [Act.put, List.setIfInBounds_toArray, List.set_cons_zero, List.set_cons_succ])
      refine wpAnyH_ready (rs := [7]) (by kernel_rfl) (by simp) ?_
      refine AllReadyH.cons rfl (fun K hK => ?_) AllReadyH.nil
      go_simp
      go_at_call 57
      (with_reducible refine (cells_r q ob rg pg pk HQ.out (fullC q) HFF.out fI HFI.out _).mono ?_)
      rintro x w5 ⟨mv, rfl, hX, hb⟩
      have hle_ := Nat.le_trans hw4 HBC.out.size
      have HCM := hide (hX.le hle_)
      have HBVs := hide (HBVs.out.below hb)
      have HPN := hide (HPN.out.below hb)
      have HHO := hide (HHO.out.below hb)
      have HAC := hide (own_below HAC.out hb)
      have HBC := hide (bcall HBC.out hb)
      clear hb
      clear hle_
      (try go_simp)
      refine hK.out _ _ (by exact K14.out.below HBC.out) (fun hHeld => ?_)
      clear hK
      (try simp only [Act.put, List.setIfInBounds_toArray, List.set_cons_zero, List.set_cons_succ])
      refine wpAnyH_ready (rs := [12]) (by kernel_rfl) (by simp) ?_
      refine AllReadyH.cons rfl (fun K hK => ?_) AllReadyH.nil
      go_simp
      go_at_call 33
      (with_reducible refine (count_r (pGreys q) HGL.out _).mono ?_)
      rintro x w5 ⟨rfl, hb⟩
      have hle_ := Nat.le_trans hw4 HBC.out.size
      have HBVs := hide (HBVs.out.below hb)
      have HPN := hide (HPN.out.below hb)
      have HHO := hide (HHO.out.below hb)
      have HCM := hide (HCM.out.below hb)
      have HAC := hide (own_below HAC.out hb)
      have HBC := hide (bcall HBC.out hb)
      clear hb
      clear hle_
      (try go_simp)
      refine hK.out _ _ (by exact K14.out.below HBC.out) (fun hHeld => ?_)
      clear hK
      (try simp only [Act.put, List.setIfInBounds_toArray, List.set_cons_zero, List.set_cons_succ])
      refine wpAnyH_ready (rs := [18]) (by kernel_rfl) (by simp) ?_
      refine AllReadyH.cons rfl (fun K hK => ?_) AllReadyH.nil
      go_simp
      go_at_call 58
      (with_reducible refine (lnew_r q.mu (by have := HRN.out; omega) (by have := HRN.out; omega) _).mono ?_)
      rintro x w5 ⟨bl', rfl, hX, hb⟩
      have hle_ := Nat.le_trans hw4 HBC.out.size
      have HLB := hide (own_base hX hle_)
      have HBVs := hide (HBVs.out.below hb)
      have HPN := hide (HPN.out.below hb)
      have HHO := hide (HHO.out.below hb)
      have HCM := hide (HCM.out.below hb)
      have HAC := hide (own_below HAC.out hb)
      have HBC := hide (bcall HBC.out hb)
      clear hb
      clear hle_
      (try go_simp)
      refine hK.out _ _ (by exact K14.out.below HBC.out) (fun hHeld => ?_)
      clear hK
      (try simp only [Act.put, List.setIfInBounds_toArray, List.set_cons_zero, List.set_cons_succ])
      refine wpAnyH_ready (rs := [20]) (by kernel_rfl) (by simp) ?_
      refine AllReadyH.cons rfl (fun K hK => ?_) AllReadyH.nil
      go_simp
      go_at_call 59
      (with_reducible refine (workers_any q ob rg pg pk HQ.out _).mono ?_)
      rintro x w5 ⟨wv, rfl, hX, hb⟩
      have hle_ := Nat.le_trans hw4 HBC.out.size
      have HWS := hide (hX.le hle_)
      have HBVs := hide (HBVs.out.below hb)
      have HPN := hide (HPN.out.below hb)
      have HHO := hide (HHO.out.below hb)
      have HCM := hide (HCM.out.below hb)
      have HAC := hide (own_below HAC.out hb)
      have HLB := hide (own_below HLB.out hb)
      have HBC := hide (bcall HBC.out hb)
      clear hb
      clear hle_
      (try go_simp)
      refine hK.out _ _ (by exact K14.out.below HBC.out) (fun hHeld => ?_)
      clear hK
      (try simp only [Act.put, List.setIfInBounds_toArray, List.set_cons_zero, List.set_cons_succ])
      refine wpAnyH_ready (rs := [22]) (by kernel_rfl) (by simp) ?_
      refine AllReadyH.cons rfl (fun K hK => ?_) AllReadyH.nil
      go_simp
      go_at_call 60
      (with_reducible refine (mutators_any q ob rg pg pk HQ.out _ (HP4.out.below HBC.out).rg HSM.out.s1).mono ?_)
      rintro x w5 ⟨uv, rfl, hX, hb⟩
      have hle_ := Nat.le_trans hw4 HBC.out.size
      have HMS := hide (hX.le hle_)
      have HBVs := hide (HBVs.out.below hb)
      have HPN := hide (HPN.out.below hb)
      have HHO := hide (HHO.out.below hb)
      have HCM := hide (HCM.out.below hb)
      have HAC := hide (own_below HAC.out hb)
      have HLB := hide (own_below HLB.out hb)
      have HWS := hide (HWS.out.below hb)
      have HBC := hide (bcall HBC.out hb)
      clear hb
      clear hle_
      (try go_simp)
      refine hK.out _ _ (by exact K14.out.below HBC.out) (fun hHeld => ?_)
      clear hK
      (try simp only [Act.put, List.setIfInBounds_toArray, List.set_cons_zero, List.set_cons_succ])
      refine tk 23 (h := ?_)
      refine wpAnyH_ready (rs := [24]) (by kernel_rfl) (by simp) ?_
      refine AllReadyH.cons rfl (fun K hK => ?_) AllReadyH.nil
      refine step_store_rowSa rfl 66 (.tmp 2) (.tmp 45) rfl (w.heap.size + 1) (stL (⟨q, q.sl, q.ob, newM q.wk.toNat q.cp.toNat (binsC q) (binsN 0 (fullC q)) (binsN (fullC q) (binsC q - fullC q)), [] :: chunk q.bn.toNat (binsC q) (greyL q), pGreys q, 0, cntF (pGreys q), 0, false, false, 0, List.replicate q.mu.toNat 0, lNew q.mu, (List.range q.wk.toNat).map (workerF q), q.rg.map mutatorF, 0, 0⟩ : Sq) ⟨ob', rg', pg', pk', b', mv, bv, av, bl', wv, uv⟩).toArray rfl rfl _ _ (K24.out.below HBC.out) (by kernel_rfl) rfl (stA_one _ _) ?_
      (try go_simp)
      refine hK.out _ _ (by exact bc_rowO (K14.out.below HBC.out) (by omega) _) (fun hHeld => ?_)
      clear hK
      (try simp only [Act.put, List.setIfInBounds_toArray, List.set_cons_zero, List.set_cons_succ])
      refine wpAnyH_done (by kernel_rfl) ?_ _
      go_wp2
      refine bodyPost_ret (results_row Tryz.results13 (w.heap.size + 1) rfl _ _ _ _ (setRow_heap _ _ _ _ _ _ (K24.out.below HBC.out)) Tryz.underlying66 rfl (by kernel_rfl)) rfl ?_
      have HNR := NewR.grown (v := ⟨ob', rg', pg', pk', b', mv, bv, av, bl', wv, uv⟩) (q := (⟨q, q.sl, q.ob, newM q.wk.toNat q.cp.toNat (binsC q) (binsN 0 (fullC q)) (binsN (fullC q) (binsC q - fullC q)), [] :: chunk q.bn.toNat (binsC q) (greyL q), pGreys q, 0, cntF (pGreys q), 0, false, false, 0, List.replicate q.mu.toNat 0, lNew q.mu, (List.range q.wk.toNat).map (workerF q), q.rg.map mutatorF, 0, 0⟩ : Sq)) ⟨HPN.out, HHO.out, HCM.out, HBVs.out, HAC.out, HLB.out, HWS.out, HMS.out⟩ (grown_row _ (w.heap.size + 1) (stL (⟨q, q.sl, q.ob, newM q.wk.toNat q.cp.toNat (binsC q) (binsN 0 (fullC q)) (binsN (fullC q) (binsC q - fullC q)), [] :: chunk q.bn.toNat (binsC q) (greyL q), pGreys q, 0, cntF (pGreys q), 0, false, false, 0, List.replicate q.mu.toNat 0, lNew q.mu, (List.range q.wk.toNat).map (workerF q), q.rg.map mutatorF, 0, 0⟩ : Sq) ⟨ob', rg', pg', pk', b', mv, bv, av, bl', wv, uv⟩).toArray) (by omega)
      exact ⟨_, rfl, HNR, below_setRow ((HB.out.trans (HBX.out.mono HB.out.size)).trans (HBC.out.mono (by omega))) (by omega) _⟩
  · skip
    refine step_make_full _ rfl _ _ _ rfl w4.heap.size 3 i0 (.int .i64 0) 1 Tryz.underlying47 hi hz0 hz1 .i64 .i64 q.mu q.mu q.mu.toNat rfl rfl (by have := HRN.out; omega) (by have := HRN.out; omega) (by rw [hz2]; have := HRN.out; omega) (by have := HRN.out; unfold maxLen; omega) HBC.out.size ?_
    intro w5 av hX hgX
    have hb := below_none hgX
    have HAC := hide (own_base (acks_r hX) hw4)
    have HBVs := hide (HBVs.out.below hb)
    have HBC := hide (bcall HBC.out hb)
    clear hb
    (try go_simp)
    refine hK.out _ _ (by exact K14.out.below HBC.out) (fun hHeld => ?_)
    clear hK
    (try simp only [Act.put, List.setIfInBounds_toArray, List.set_cons_zero, List.set_cons_succ])
    refine wpAnyH_ready (rs := [1]) (by kernel_rfl) (by simp) ?_
    refine AllReadyH.cons rfl (fun K hK => ?_) AllReadyH.nil
    go_simp
    go_at_call 55
    (with_reducible refine (copiedPlan_any q ob rg pg pk _ (HP4.out.below HBC.out) HSM.out.s0 HSM.out.b0 HSM.out.s1 HSM.out.b1 HSM.out.s2 HSM.out.b2 HSM.out.b3).mono ?_)
    rintro x w5 ⟨ob', rg', pg', pk', rfl, hX, hb⟩
    have hle_ := Nat.le_trans hw4 HBC.out.size
    have HPN := hide (hX.le hle_)
    have HBVs := hide (HBVs.out.below hb)
    have HAC := hide (own_below HAC.out hb)
    have HBC := hide (bcall HBC.out hb)
    clear hb
    clear hle_
    (try go_simp)
    refine hK.out _ _ (by exact K14.out.below HBC.out) (fun hHeld => ?_)
    clear hK
    (try simp only [Act.put, List.setIfInBounds_toArray, List.set_cons_zero, List.set_cons_succ])
    refine wpAnyH_ready (rs := [4]) (by kernel_rfl) (by simp) ?_
    refine AllReadyH.cons rfl (fun K hK => ?_) AllReadyH.nil
    go_simp
    go_at_call 56
    (with_reducible refine (copiedHeap_any q.sl ob q.ob _ (HP4.out.below HBC.out).ob HSM.out.s0 HSM.out.b0).mono ?_)
    rintro x w5 ⟨b', rfl, hX, hb⟩
    have hle_ := Nat.le_trans hw4 HBC.out.size
    have HHO := hide (hX.le hle_)
    have HBVs := hide (HBVs.out.below hb)
    have HPN := hide (HPN.out.below hb)
    have HAC := hide (own_below HAC.out hb)
    have HBC := hide (bcall HBC.out hb)
    clear hb
    clear hle_
    (try go_simp)
    refine hK.out _ _ (by exact K14.out.below HBC.out) (fun hHeld => ?_)
    clear hK
    (try simp only [Act.put, List.setIfInBounds_toArray, List.set_cons_zero, List.set_cons_succ])
    refine wpAnyH_ready (rs := [7]) (by kernel_rfl) (by simp) ?_
    refine AllReadyH.cons rfl (fun K hK => ?_) AllReadyH.nil
    go_simp
    go_at_call 57
    (with_reducible refine (cells_r q ob rg pg pk HQ.out (fullC q) HFF.out fI HFI.out _).mono ?_)
    rintro x w5 ⟨mv, rfl, hX, hb⟩
    have hle_ := Nat.le_trans hw4 HBC.out.size
    have HCM := hide (hX.le hle_)
    have HBVs := hide (HBVs.out.below hb)
    have HPN := hide (HPN.out.below hb)
    have HHO := hide (HHO.out.below hb)
    have HAC := hide (own_below HAC.out hb)
    have HBC := hide (bcall HBC.out hb)
    clear hb
    clear hle_
    (try go_simp)
    refine hK.out _ _ (by exact K14.out.below HBC.out) (fun hHeld => ?_)
    clear hK
    (try simp only [Act.put, List.setIfInBounds_toArray, List.set_cons_zero, List.set_cons_succ])
    refine wpAnyH_ready (rs := [12]) (by kernel_rfl) (by simp) ?_
    refine AllReadyH.cons rfl (fun K hK => ?_) AllReadyH.nil
    go_simp
    go_at_call 33
    (with_reducible refine (count_r (pGreys q) HGL.out _).mono ?_)
    rintro x w5 ⟨rfl, hb⟩
    have hle_ := Nat.le_trans hw4 HBC.out.size
    have HBVs := hide (HBVs.out.below hb)
    have HPN := hide (HPN.out.below hb)
    have HHO := hide (HHO.out.below hb)
    have HCM := hide (HCM.out.below hb)
    have HAC := hide (own_below HAC.out hb)
    have HBC := hide (bcall HBC.out hb)
    clear hb
    clear hle_
    (try go_simp)
    refine hK.out _ _ (by exact K14.out.below HBC.out) (fun hHeld => ?_)
    clear hK
    (try simp only [Act.put, List.setIfInBounds_toArray, List.set_cons_zero, List.set_cons_succ])
    refine wpAnyH_ready (rs := [18]) (by kernel_rfl) (by simp) ?_
    refine AllReadyH.cons rfl (fun K hK => ?_) AllReadyH.nil
    go_simp
    go_at_call 58
    (with_reducible refine (lnew_r q.mu (by have := HRN.out; omega) (by have := HRN.out; omega) _).mono ?_)
    rintro x w5 ⟨bl', rfl, hX, hb⟩
    have hle_ := Nat.le_trans hw4 HBC.out.size
    have HLB := hide (own_base hX hle_)
    have HBVs := hide (HBVs.out.below hb)
    have HPN := hide (HPN.out.below hb)
    have HHO := hide (HHO.out.below hb)
    have HCM := hide (HCM.out.below hb)
    have HAC := hide (own_below HAC.out hb)
    have HBC := hide (bcall HBC.out hb)
    clear hb
    clear hle_
    (try go_simp)
    refine hK.out _ _ (by exact K14.out.below HBC.out) (fun hHeld => ?_)
    clear hK
    (try simp only [Act.put, List.setIfInBounds_toArray, List.set_cons_zero, List.set_cons_succ])
    refine wpAnyH_ready (rs := [20]) (by kernel_rfl) (by simp) ?_
    refine AllReadyH.cons rfl (fun K hK => ?_) AllReadyH.nil
    go_simp
    go_at_call 59
    (with_reducible refine (workers_any q ob rg pg pk HQ.out _).mono ?_)
    rintro x w5 ⟨wv, rfl, hX, hb⟩
    have hle_ := Nat.le_trans hw4 HBC.out.size
    have HWS := hide (hX.le hle_)
    have HBVs := hide (HBVs.out.below hb)
    have HPN := hide (HPN.out.below hb)
    have HHO := hide (HHO.out.below hb)
    have HCM := hide (HCM.out.below hb)
    have HAC := hide (own_below HAC.out hb)
    have HLB := hide (own_below HLB.out hb)
    have HBC := hide (bcall HBC.out hb)
    clear hb
    clear hle_
    (try go_simp)
    refine hK.out _ _ (by exact K14.out.below HBC.out) (fun hHeld => ?_)
    clear hK
    (try simp only [Act.put, List.setIfInBounds_toArray, List.set_cons_zero, List.set_cons_succ])
    refine wpAnyH_ready (rs := [22]) (by kernel_rfl) (by simp) ?_
    refine AllReadyH.cons rfl (fun K hK => ?_) AllReadyH.nil
    go_simp
    go_at_call 60
    (with_reducible refine (mutators_any q ob rg pg pk HQ.out _ (HP4.out.below HBC.out).rg HSM.out.s1).mono ?_)
    rintro x w5 ⟨uv, rfl, hX, hb⟩
    have hle_ := Nat.le_trans hw4 HBC.out.size
    have HMS := hide (hX.le hle_)
    have HBVs := hide (HBVs.out.below hb)
    have HPN := hide (HPN.out.below hb)
    have HHO := hide (HHO.out.below hb)
    have HCM := hide (HCM.out.below hb)
    have HAC := hide (own_below HAC.out hb)
    have HLB := hide (own_below HLB.out hb)
    have HWS := hide (HWS.out.below hb)
    have HBC := hide (bcall HBC.out hb)
    clear hb
    clear hle_
    (try go_simp)
    refine hK.out _ _ (by exact K14.out.below HBC.out) (fun hHeld => ?_)
    clear hK
    (try simp only [Act.put, List.setIfInBounds_toArray, List.set_cons_zero, List.set_cons_succ])
    refine tk 23 (h := ?_)
    refine wpAnyH_ready (rs := [24]) (by kernel_rfl) (by simp) ?_
    refine AllReadyH.cons rfl (fun K hK => ?_) AllReadyH.nil
    refine step_store_rowSa rfl 66 (.tmp 2) (.tmp 45) rfl (w.heap.size + 1) (stL (⟨q, q.sl, q.ob, newM q.wk.toNat q.cp.toNat (binsC q) (binsN 0 (fullC q)) (binsN (fullC q) (binsC q - fullC q)), [] :: chunk q.bn.toNat (binsC q) (greyL q), pGreys q, 0, cntF (pGreys q), 0, false, false, 0, List.replicate q.mu.toNat 0, lNew q.mu, (List.range q.wk.toNat).map (workerF q), q.rg.map mutatorF, 0, 0⟩ : Sq) ⟨ob', rg', pg', pk', b', mv, bv, av, bl', wv, uv⟩).toArray rfl rfl _ _ (K24.out.below HBC.out) (by kernel_rfl) rfl (stA_one _ _) ?_
    (try go_simp)
    refine hK.out _ _ (by exact bc_rowO (K14.out.below HBC.out) (by omega) _) (fun hHeld => ?_)
    clear hK
    (try simp only [Act.put, List.setIfInBounds_toArray, List.set_cons_zero, List.set_cons_succ])
    refine wpAnyH_done (by kernel_rfl) ?_ _
    go_wp2
    refine bodyPost_ret (results_row Tryz.results13 (w.heap.size + 1) rfl _ _ _ _ (setRow_heap _ _ _ _ _ _ (K24.out.below HBC.out)) Tryz.underlying66 rfl (by kernel_rfl)) rfl ?_
    have HNR := NewR.grown (v := ⟨ob', rg', pg', pk', b', mv, bv, av, bl', wv, uv⟩) (q := (⟨q, q.sl, q.ob, newM q.wk.toNat q.cp.toNat (binsC q) (binsN 0 (fullC q)) (binsN (fullC q) (binsC q - fullC q)), [] :: chunk q.bn.toNat (binsC q) (greyL q), pGreys q, 0, cntF (pGreys q), 0, false, false, 0, List.replicate q.mu.toNat 0, lNew q.mu, (List.range q.wk.toNat).map (workerF q), q.rg.map mutatorF, 0, 0⟩ : Sq)) ⟨HPN.out, HHO.out, HCM.out, HBVs.out, HAC.out, HLB.out, HWS.out, HMS.out⟩ (grown_row _ (w.heap.size + 1) (stL (⟨q, q.sl, q.ob, newM q.wk.toNat q.cp.toNat (binsC q) (binsN 0 (fullC q)) (binsN (fullC q) (binsC q - fullC q)), [] :: chunk q.bn.toNat (binsC q) (greyL q), pGreys q, 0, cntF (pGreys q), 0, false, false, 0, List.replicate q.mu.toNat 0, lNew q.mu, (List.range q.wk.toNat).map (workerF q), q.rg.map mutatorF, 0, 0⟩ : Sq) ⟨ob', rg', pg', pk', b', mv, bv, av, bl', wv, uv⟩).toArray) (by omega)
    exact ⟨_, rfl, HNR, below_setRow ((HB.out.trans (HBX.out.mono HB.out.size)).trans (HBC.out.mono (by omega))) (by omega) _⟩
theorem new_t (q : Pq) (ob rg pg pk : Hd) (hs : q.ro < 18446744073709551616) (hr : pRight q = true) (w : World) (hP : PlanR w (hdV ob) (hdV rg) (hdV pg) (hdV pk) q) (hE : EnvT w) :
    Calls Tryz.prog 13 #[.agg (plLSa q (hdV ob) (hdV rg) (hdV pg) (hdV pk)).toArray] w fun e w' => ∃ v : Sv, e = .returned (.agg (stL (sNew q) v).toArray) ∧ StR w' v (sNew q) ∧ Below w.heap.size w w' :=
  (new_n q ob rg pg pk hs hr w hP hE).mono fun _ _ ⟨v, h1, h2, h3⟩ => ⟨v, h1, h2.read, h3⟩
end Go.Proofs.YtdmbcjckgfjcaaaGreatDoor
