import Derived.Test.YtdmbcjckgfjcaaaGreatDoorRbz
import Derived.Test.YtdmbcjckgfjcaaaGreatDoorRbz
import Derived.Test.YtdmbcjckgfjcaaaGreatDoorRau
import Derived.Test.YtdmbcjckgfjcaaaGreatDoorRan
import Derived.Test.YtdmbcjckgfjcaaaGreatDoorRbg
/- Layer state: the law StateNew's own steps. -/
namespace Go.Proofs.YtdmbcjckgfjcaaaGreatDoor
open Go.RowKit Go.Joins Go.Shelf
theorem grid_open {w : World} {v : Value} {B : Rws} (h : Grid w v B) (h0 : 0 < B.length) : ∃ bb ob cb, v = .slice (some ⟨bb, ob, none⟩) B.length cb ∧ ∀ (k : Nat) (L : List Int), B[k]? = some L → ∃ Ar cr, w.cell? ⟨bb, ob + k, none⟩ = some (.slice Ar L.length cr) ∧ Ints w (.slice Ar L.length cr) L := by
  obtain ⟨vb, h1, h2, h3⟩ := h
  obtain ⟨bb, ob, cb, rfl, -, hc⟩ := sl_open h1 (by rw [h2]; exact h0)
  refine ⟨bb, ob, cb, by rw [h2], fun k L hk => ?_⟩
  have hlt : k < vb.length := by rw [h2]; exact (List.getElem?_eq_some_iff.1 hk).1
  have hu := List.getElem?_eq_getElem hlt
  have hi := h3 k _ L hu hk
  obtain ⟨Ar, cr, e, -⟩ := id hi
  have h4 := hc k _ hu 0 _ rfl
  rw [Nat.mul_one, Nat.add_zero, e] at h4
  rw [e] at hi
  exact ⟨Ar, cr, h4, hi⟩
theorem ints_row {w : World} {A : Option Addr} {n c : Nat} {l : List Int} (h : Ints w (.slice A n c) l) {k : Nat} {x : Int} (hk : l[k]? = some x) : ∃ b off, A = some ⟨b, off, none⟩ ∧ w.cell? ⟨b, off + k, none⟩ = some (.int .i64 x) := by
  obtain ⟨A', c', e, -, -, h3⟩ := h
  injection e with e1 e2 e3
  subst e1
  obtain ⟨b, off, rfl, hb, hc⟩ := h3 (Nat.lt_of_le_of_lt (Nat.zero_le k) (List.getElem?_eq_some_iff.1 hk).1)
  have := hc k x hk 0 _ rfl
  rw [Nat.mul_one, Nat.add_zero] at this
  exact ⟨b, off, rfl, this⟩
section
variable {P : Program}
/-- append, at the operation, in a region that draws -/
theorem step_append_slT {α : Type} {enc : α → List Value} (w : World) {ops : Array Oper} {op : Oper} {a : Act} {K : Act → World → Prop} {Q : Exit → Act → World → Prop} {E : Prop} (hgd : op.guard = none) (s y : Operand) (t tx : TypeId)
    (ho : op.op = .call { callee := .builtin .append, args := #[s, y], argTypes := #[t, tx] })
    (base : Nat) (e ex : TypeId) (i : TypeInfo) (z : Value) (size bytes : Nat) (ht : P.underlying t = some (.slice e)) (htx : P.underlying tx = some (.slice ex)) (hi : P.info? e = some i) (hz : i.zero = some z)
    (hsize : i.size = size) (hby : i.bytes = bytes) (hzs : z.cells.size = size) (hsz : 0 < size)
    (v : Value) (n : Nat) (xs : List Value) (hs : a.eval s = v) (hown : w.ownsRow base e size v n xs) (x : Value) (l : List α) (hy : a.eval y = x) (hx : Sl enc size w x l) (henc : ∀ p, (enc p).length = size) (h1 : ∀ p, ∀ u ∈ enc p, u.oneCell' = true)
    (h63 : n + l.length ≤ maxLen) (hbytes : (n + l.length) * bytes ≤ 140737488355328) (hbase : base ≤ w.heap.size)
    (h : ∀ v' w', w'.ownsRow base e size v' (n + l.length) (xs ++ l.flatMap enc) → Below base w w' → K (a.put op.dst v') w') : if Region.wanted op (yielded ops a.tmps) = true then Oper.wp P op a w K Q else E := by
  rw [if_pos (show Region.wanted op (yielded ops a.tmps) = true by simp [Region.wanted, hgd])]
  obtain ⟨v', w', hrun, h2, h3⟩ := run_append_sl (P := P) w base t op.type e i z size bytes ht hi hz hsize hby hzs hsz v n xs hown x l hx henc h1 h63 hbytes hbase
  rw [← append_types w t tx op.type e ex ht htx v x] at hrun
  unfold Oper.wp execOp
  simp only [ho, resolve, invoke, builtin, Sem.run_bind, Sem.run_pure, Result.andThen_ok, List.map_toArray, List.map_cons, List.map_nil, hs, hy, hrun]
  exact (h v' w' h2 ((Below.refl _ _).grown h3 hbase (own_ge hown)))
end
end Go.Proofs.YtdmbcjckgfjcaaaGreatDoor
/- Layer state: the law StateNew. Written by tools/genstatelaw4.py. -/
namespace Go.Proofs.YtdmbcjckgfjcaaaGreatDoor
open Go.RowKit Go.Joins Go.Shelf
theorem made_few (g : Nat → Int) : (madeG g).mo ≤ 9 := by
  have h1 := mG g 8 6 (by decide)
  have h2 := mG g 9 4 (by decide)
  show nG g + g 9 % 4 ≤ 9
  unfold nG; omega
theorem fu_k (p : Pq) (hb : binsC p ≤ 96) (hf : fullC p ≤ binsC p) : AllK (fuL p) := fun x hx => by
  obtain ⟨i, hi, rfl⟩ := List.mem_iff_getElem.1 hx
  have h := fu_at (p := p) (i := i) (by rw [← fu_len p]; exact hi)
  rw [List.getElem?_eq_getElem hi] at h
  have h := Option.some.inj h
  rw [h]; rw [fu_len] at hi; unfold Kw; omega
theorem em_k (p : Pq) (hb : binsC p ≤ 96) (hf : fullC p ≤ binsC p) : AllK (emL p) := fun x hx => by
  obtain ⟨i, hi, rfl⟩ := List.mem_iff_getElem.1 hx
  have h := em_at (p := p) (i := i) (by rw [← em_len p]; exact hi)
  rw [List.getElem?_eq_getElem hi] at h
  have h := Option.some.inj h
  rw [h]; rw [em_len] at hi; unfold Kw; omega
theorem once_r (v : Value) (b : List Int) (w : World) (h : Ints w v b) (hk : AllK b) (s : Nat) (hs : onceV b = s) (hb : onceB b = true) :
    Calls Tryz.prog 28 #[v] w fun e w' => e = .returned (.tuple #[.int .u64 (s : Int), .bool true]) ∧ Below w.heap.size w w' := by
  subst hs
  refine (bOnce_any v b w h hk).mono ?_
  rintro e w' ⟨rfl, rfl⟩
  exact ⟨by rw [hb], Below.refl _ _⟩
theorem first_r (n : Nat) (hn : n ≤ 1000) (w : World) : Calls Tryz.prog 31 #[.int .i64 (n : Int)] w fun e w' => e = .returned (.int .u64 (firstF n : Nat)) ∧ Below w.heap.size w w' := by
  refine (First_any n w (by omega) (by omega)).mono ?_
  rintro e w' ⟨rfl, rfl⟩
  exact ⟨rfl, Below.refl _ _⟩
theorem i6_top {p : Pq} (h : PRt p) {k W : Nat} (hk : k ≤ W) (hW : W ≤ 3) : I6 ((topM k p.cp.toNat : Nat) : Int) := by
  have hr := h.rng
  unfold pRng at hr
  have h1 : k * (p.cp.toNat + 2) ≤ 3 * 18 := Nat.mul_le_mul (by omega) (by omega)
  unfold topM I6; omega
theorem items_none {w w' : World} {e : Ending} (h : ItemsEnd w [] 0 e w') : ∃ A c, e = .returned (.slice A 0 c) ∧ Below w.heap.size w w' := by
  obtain ⟨A, c, h1, -, -, h2⟩ := h
  exact ⟨A, c, h1, h2⟩
theorem sum_k {a b l : List Int} (ha : AllK a) (hb : AllK b) (h : sumB a b = l) : AllK l := fun x hx => by
  have hp : (sumB a b).Perm (a ++ b) := List.perm_iff_count.2 fun o => norm_count _ o
  rw [← h] at hx
  rcases List.mem_append.1 (hp.mem_iff.1 hx) with h | h
  · exact ha x h
  · exact hb x h
theorem grey_k (p : Pq) : AllK (greyL p) := fun x hx => by
  have := grey_small x hx
  unfold Kw; omega
theorem greys_i (p : Pq) (ob rg pg pk : Hd) (hq : PRt p) (hs : p.ro < 18446744073709551616) (w : World) (hg : Grid w (hdV rg) p.rg) (gI : Int) (h : ((pGreys p : Nat) : Int) = gI) :
    Calls Tryz.prog 30 #[.agg (plLSa p (hdV ob) (hdV rg) (hdV pg) (hdV pk)).toArray] w fun e w' => e = .returned (.int .u64 gI) ∧ Below w.heap.size w w' := by
  subst h; exact greys_r p ob rg pg pk hq hs w hg
theorem first_i (n : Nat) (hn : n ≤ 1000) (fI : Int) (h : ((firstF n : Nat) : Int) = fI) (w : World) : Calls Tryz.prog 31 #[.int .i64 (n : Int)] w fun e w' => e = .returned (.int .u64 fI) ∧ Below w.heap.size w w' := by
  subst h; exact first_r n hn w
theorem count_i (s : Nat) (hs : s < 18446744073709551616) (gI : Int) (h : (s : Int) = gI) (cI : Int) (h' : ((cntF s : Nat) : Int) = cI) (w : World) : Calls Tryz.prog 33 #[.int .u64 gI] w fun e w' => e = .returned (.int .i64 cI) ∧ Below w.heap.size w w' := by
  subst h h'; exact count_r s hs w
set_option maxRecDepth 100000 in
set_option maxHeartbeats 16000000 in
theorem new_walk (v : Value) (l : List Int) (w : World) (hl : Bytes w v l) (hr : ∀ b ∈ l, 0 ≤ b ∧ b ≤ 255) (hE : EnvT w) :
    Calls Tryz.prog 4 #[v] w fun x w' => x = .returned (.bool true) ∧ Below w.heap.size w w' := by
  have HL := hide hl
  have HR := hide hr
  have HE := hide hE
  have HB := hide (show Below w.heap.size w w from Below.refl _ _)
  obtain ⟨Av, cv, rfl, -, -, -⟩ := id hl
  obtain ⟨p, hp⟩ : ∃ p, madeG (byteG (l.take 90)) = p := ⟨_, rfl⟩
  have hq := madeQ (byteG (l.take 90))
  rw [hp] at hq
  obtain ⟨q, hn⟩ : ∃ q, sNew p = q := ⟨_, rfl⟩
  have HP := hide hp
  have HQ := hide hq
  have HN := hide hn
  clear hl hr hE hp hq hn
  go_enter Tryz.func4, Tryz.ntmps4
  go_upto_region 4 with (first
    | (go_at_call 8; (with_reducible refine (examples_anySa _ HE.out).mono ?_); rintro e_ wa ⟨rfl, hb⟩; replace HL := hide (HL.out.below hb); replace HE := hide (HE.out.below hb); replace HB := hide (bcall HB.out hb); clear hb))
  go_upto_region 5 with (first
    | (go_at_call 9; (with_reducible refine (made_st _ l _ HL.out HR.out p HP.out).mono ?_); rintro e_ wb ⟨ob, rg, pg, rfl, hPR, hb⟩; replace HL := hide (HL.out.below hb); replace HE := hide (HE.out.below hb); replace HB := hide (bcall HB.out hb); have HPR := hide hPR; clear hPR; clear hb)
    | (refine wpList_store_row rfl 30 (.tmp 4) (.tmp 20) rfl wb.heap.size rfl (plLSa p (hdV ob) (hdV rg) (hdV pg) (hdV hd0)).toArray rfl _ _ (heap_alloc_new wb _) (by kernel_rfl) rfl (plA_one _ _ _ _ _) ?_; rw [setRow_alloc]))
  obtain ⟨wc, e_, k_, hb, -⟩ := box_newL wb (plLSa p (hdV ob) (hdV rg) (hdV pg) (hdV hd0)) 30
  rw [e_]
  clear e_
  replace HL := hide (HL.out.below hb)
  replace HE := hide (HE.out.below hb)
  replace HPR := hide (HPR.out.below hb)
  replace HB := hide (bcall HB.out hb)
  have HKP := hide k_
  clear k_ hb
  go_upto_region 6 with (first
    | (refine wpList_load_row rfl 30 (.tmp 4) rfl wb.heap.size rfl (plLSa p (hdV ob) (hdV rg) (hdV pg) (hdV hd0)).toArray _ _ _ HKP.out Tryz.underlying30 rfl (by kernel_rfl) ?_)
    | (go_at_call 13; (with_reducible refine (New_q p q ob rg pg HN.out HQ.out.ro _ HPR.out HE.out).mono ?_); rintro e_ wd ⟨vs, rfl, hR, hb⟩; replace HL := hide (HL.out.below hb); replace HE := hide (HE.out.below hb); replace HPR := hide (HPR.out.below hb); replace HKP := hide (HKP.out.below hb); replace HB := hide (bcall HB.out hb); have HRS := hide hR; clear hR; clear hb)
    | (refine wpList_store_row rfl 66 (.tmp 5) (.tmp 22) rfl wd.heap.size rfl (stL q vs).toArray rfl _ _ (heap_alloc_new wd _) (by kernel_rfl) rfl (stA_one q vs) ?_; rw [setRow_alloc]))
  obtain ⟨we, e_, k_, hb, -⟩ := box_newL wd (stL q vs) 66
  rw [e_]
  clear e_
  replace HL := hide (HL.out.below hb)
  replace HE := hide (HE.out.below hb)
  replace HPR := hide (HPR.out.below hb)
  replace HKP := hide (HKP.out.below hb)
  replace HRS := hide (HRS.out.below hb)
  replace HB := hide (bcall HB.out hb)
  have HKS := hide k_
  clear k_ hb
  have hpr := HQ.out.rt
  have hro := HQ.out.ro
  have hbins := bins_rng hpr
  have hff := full_few hpr hro
  have hfew : p.mo ≤ 9 := by rw [← HP.out]; exact made_few _
  have hrng := hpr.rng
  unfold pRng at hrng
  have hwk3 := HQ.out.wk
  have hmu2 := HQ.out.mu
  have hN64 : binsC p ≤ 64 := by have h := hbins.2.2; unfold pBins at h; omega
  obtain ⟨T, hTT⟩ : ∃ T, topM p.wk.toNat p.cp.toNat = T := ⟨_, rfl⟩
  have hT1 := top_le (cells_new hpr hro)
  rw [hTT] at hT1
  have hF : fullF p.cp p.wk = (T : Int) := by rw [full_at hpr, hTT]
  have hM : emptyF p.cp p.wk = (T : Int) + 1 := by rw [empty_at hpr, hTT]; rfl
  have hfu := new_fu hpr hro
  have hem := new_em hpr hro
  rw [hTT, HN.out] at hfu hem
  have hbl := new_blen hpr
  rw [HN.out] at hbl
  have hgl : (greyL p).length ≤ 96 := by have h := grey_few hpr hro; omega
  have hmu := new_u hpr
  rw [HN.out] at hmu
  have hml : q.m.length * 8 ≤ 140737488351232 := by have h := new_len hpr hro; rw [HN.out] at h; omega
  have hc6 : I6 p.cp := by unfold I6; omega
  have hfull := fun i (hi : i < fullC p) => new_full hpr hro (i := i) hi
  have hempty := fun i (hi : i < binsC p - fullC p) => new_empty hpr hro (i := i) hi
  rw [HN.out] at hfull hempty
  have hheld := new_held hpr hro
  rw [HN.out] at hheld
  have hwork := new_work hpr
  rw [HN.out] at hwork
  have hdq := fun i (hi : i < p.wk.toNat) => new_dq hpr hro (w := i) hi
  rw [HN.out] at hdq
  have hD : ∀ k : Nat, k < p.wk.toNat → dequeF p.cp ((k : Int) + 1) = ((topM k p.cp.toNat : Nat) : Int) := fun k hk => by have h := deque_at hpr (w := k) (by omega); exact h
  have hkf := fu_k p hbins.2.1 hff
  have hke := em_k p hbins.2.1 hff
  have hfl := fu_len p
  have hel := em_len p
  obtain ⟨f, hfN⟩ : ∃ f, fullC p = f := ⟨_, rfl⟩
  obtain ⟨NB, hNB⟩ : ∃ n, binsC p = n := ⟨_, rfl⟩
  obtain ⟨FU, hFU⟩ : ∃ l, fuL p = l := ⟨_, rfl⟩
  obtain ⟨EM, hEM⟩ : ∃ l, emL p = l := ⟨_, rfl⟩
  have hfa := fun i (hi : i < fullC p) => fu_at (p := p) (i := i) hi
  have hea := fun i (hi : i < binsC p - fullC p) => em_at (p := p) (i := i) hi
  have hob := once_bins (f := fullC p) (n := binsC p) hff hN64 (b := sumB FU EM) (by rw [← hFU, ← hEM]; exact List.perm_iff_count.2 fun o => norm_count _ o)
  have hog := once_grey (p := p) hro
  have hgs := grey_lt (p := p) hro
  rw [hFU] at hfu hkf hfl hfa
  rw [hEM] at hem hke hel hea
  rw [hfN, hNB] at hea hempty hel
  rw [hfN] at hfl hfa hfull hheld hff
  rw [hNB] at hff hob hN64 hbl
  have hbr := bins_r hpr
  rw [hNB] at hbr
  have hsl := sumB FU EM
  clear hsl
  have H_hF := hide hF
  have H_hM := hide hM
  have H_hfu := hide hfu
  have H_hem := hide hem
  have H_hbl := hide hbl
  have H_hfull := hide hfull
  have H_hempty := hide hempty
  have H_hheld := hide hheld
  have H_hwork := hide hwork
  have H_hdq := hide hdq
  have H_hD := hide hD
  have H_hkf := hide hkf
  have H_hke := hide hke
  have H_hfl := hide hfl
  have H_hel := hide hel
  have H_hfa := hide hfa
  have H_hea := hide hea
  have H_hob := hide hob
  have H_hog := hide hog
  have H_hgs := hide hgs
  have H_hbr := hide hbr
  have H_hff := hide hff
  have H_hgl := hide hgl
  have H_hmu := hide hmu
  have H_hml := hide hml
  have H_hc6 := hide hc6
  have hpos : NB ≤ 64 ∧ f ≤ NB := ⟨hN64, hff⟩
  have HPOS := hide hpos
  clear hpos hF hM hfu hem hbl hfull hempty hheld hwork hdq hD hkf hke hfl hel hfa hea hob hog hgs hbr hff hgl hmu hml hc6 hN64 hT1 hbins hfew hTT hrng hwk3 hmu2 hpr hro hfN hNB hFU hEM
  skip
  have HBC := hide (show Below we.heap.size we we.drew from ⟨rfl, rfl, rfl, Nat.le_refl _, fun _ _ => rfl⟩)
  refine wp_region_held_drew (S := fun w_ => Below we.heap.size we w_) (by kernel_rfl) ?_ (fun hHeld => ?_)
  · exact (by exact HBC.out)
  refine tk 0 (h := ?_)
  refine tk 1 (hy := fun w_ h_ => ex_load1 rfl rfl (HKS.out.below h_) Tryz.underlying58 rfl rfl) (h := ?_)
  refine tk 2 (hy := fun w_ h_ => ex_loadk (m := (plLSa p (hdV ob) (hdV rg) (hdV pg) (hdV hd0))) rfl rfl (HKP.out.below h_) Tryz.underlying30 rfl (by kernel_rfl) rfl) (h := ?_)
  refine tk 4 (hy := fun w_ h_ => ex_loadk (m := (plLSa p (hdV ob) (hdV rg) (hdV pg) (hdV hd0))) rfl rfl (HKP.out.below h_) Tryz.underlying30 rfl (by kernel_rfl) rfl) (h := ?_)
  refine wpAnyH_ready (rs := [3]) (by kernel_rfl) (by simp) ?_
  refine AllReadyH.cons rfl (fun K hK => ?_) AllReadyH.nil
  go_simp
  go_at_call 17
  (with_reducible refine (Full_r p ob rg pg hd0 _ (T : Int) H_hF.out).mono ?_)
  rintro x w4 ⟨rfl, hb⟩
  have HBC := hide (bcall HBC.out hb)
  clear hb
  (try go_simp)
  refine hK.out _ _ (by exact HBC.out) (fun hHeld => ?_)
  clear hK
  (try simp only [Act.put, List.setIfInBounds_toArray, List.set_cons_zero, List.set_cons_succ])
  refine wpAnyH_ready (rs := [5]) (by kernel_rfl) (by simp) ?_
  refine AllReadyH.cons rfl (fun K hK => ?_) AllReadyH.nil
  go_simp
  go_at_call 21
  (with_reducible refine (Next_r p ob rg pg hd0 _ ((T : Int) + 1) H_hM.out).mono ?_)
  rintro x w4 ⟨rfl, hb⟩
  have HBC := hide (bcall HBC.out hb)
  clear hb
  (try go_simp)
  refine hK.out _ _ (by exact HBC.out) (fun hHeld => ?_)
  clear hK
  (try simp only [Act.put, List.setIfInBounds_toArray, List.set_cons_zero, List.set_cons_succ])
  refine wpAnyH_ready (rs := [6]) (by kernel_rfl) (by simp) ?_
  refine AllReadyH.cons rfl (fun K hK => ?_) AllReadyH.nil
  go_simp
  go_at_call 26
  (with_reducible refine (ch.list_any (hdV vs.m) q.m (T : Int) ((T : Int) + 1) 100 _ (Sl.below HRS.out.m HBC.out) FU H_hfu.out f H_hfl.out).mono ?_)
  rintro x w4 ⟨Af, cf, rfl, -, hFu, hb⟩
  have HFu := hide hFu
  clear hFu
  have HBC := hide (bcall HBC.out hb)
  clear hb
  (try go_simp)
  refine hK.out _ _ (by exact HBC.out) (fun hHeld => ?_)
  clear hK
  (try simp only [Act.put, List.setIfInBounds_toArray, List.set_cons_zero, List.set_cons_succ])
  refine tk 7 (h := ?_)
  refine wpAnyH_done (by kernel_rfl) ?_ _
  obtain ⟨w6, rfl⟩ : ∃ W, W = w4 := ⟨_, rfl⟩
  replace HE := hide (HE.out.below HBC.out)
  replace HPR := hide (HPR.out.below HBC.out)
  replace HKP := hide (HKP.out.below HBC.out)
  replace HRS := hide (HRS.out.below HBC.out)
  replace HKS := hide (HKS.out.below HBC.out)
  replace HB := hide (HB.out.trans (HBC.out.mono HB.out.size))
  clear HBC
  go_upto_region 7 with (fail)
  have HBC := hide (show Below w6.heap.size w6 w6.drew from ⟨rfl, rfl, rfl, Nat.le_refl _, fun _ _ => rfl⟩)
  refine wp_region_held_drew (S := fun w_ => Below w6.heap.size w6 w_) (by kernel_rfl) ?_ (fun hHeld => ?_)
  · exact (by exact HBC.out)
  refine tk 0 (h := ?_)
  refine tk 1 (hy := fun w_ h_ => ex_load1 rfl rfl (HKS.out.below h_) Tryz.underlying58 rfl rfl) (h := ?_)
  refine tk 2 (hy := fun w_ h_ => ex_loadk (m := (plLSa p (hdV ob) (hdV rg) (hdV pg) (hdV hd0))) rfl rfl (HKP.out.below h_) Tryz.underlying30 rfl (by kernel_rfl) rfl) (h := ?_)
  refine tk 4 (hy := fun w_ h_ => ex_loadk (m := (plLSa p (hdV ob) (hdV rg) (hdV pg) (hdV hd0))) rfl rfl (HKP.out.below h_) Tryz.underlying30 rfl (by kernel_rfl) rfl) (h := ?_)
  refine wpAnyH_ready (rs := [3]) (by kernel_rfl) (by simp) ?_
  refine AllReadyH.cons rfl (fun K hK => ?_) AllReadyH.nil
  go_simp
  go_at_call 19
  (with_reducible refine (Empty_r p ob rg pg hd0 _ ((T : Int) + 1) H_hM.out).mono ?_)
  rintro x w4 ⟨rfl, hb⟩
  have HBC := hide (bcall HBC.out hb)
  clear hb
  (try go_simp)
  refine hK.out _ _ (by exact HBC.out) (fun hHeld => ?_)
  clear hK
  (try simp only [Act.put, List.setIfInBounds_toArray, List.set_cons_zero, List.set_cons_succ])
  refine wpAnyH_ready (rs := [5]) (by kernel_rfl) (by simp) ?_
  refine AllReadyH.cons rfl (fun K hK => ?_) AllReadyH.nil
  go_simp
  go_at_call 21
  (with_reducible refine (Next_r p ob rg pg hd0 _ ((T : Int) + 1) H_hM.out).mono ?_)
  rintro x w4 ⟨rfl, hb⟩
  have HBC := hide (bcall HBC.out hb)
  clear hb
  (try go_simp)
  refine hK.out _ _ (by exact HBC.out) (fun hHeld => ?_)
  clear hK
  (try simp only [Act.put, List.setIfInBounds_toArray, List.set_cons_zero, List.set_cons_succ])
  refine wpAnyH_ready (rs := [6]) (by kernel_rfl) (by simp) ?_
  refine AllReadyH.cons rfl (fun K hK => ?_) AllReadyH.nil
  go_simp
  go_at_call 26
  (with_reducible refine (ch.list_any (hdV vs.m) q.m ((T : Int) + 1) ((T : Int) + 1) 100 _ (Sl.below HRS.out.m HBC.out) EM H_hem.out (NB - f) H_hel.out).mono ?_)
  rintro x w4 ⟨Ae, ce, rfl, -, hEm, hb⟩
  have HEm := hide hEm
  clear hEm
  have HBC := hide (bcall HBC.out hb)
  clear hb
  (try go_simp)
  refine hK.out _ _ (by exact HBC.out) (fun hHeld => ?_)
  clear hK
  (try simp only [Act.put, List.setIfInBounds_toArray, List.set_cons_zero, List.set_cons_succ])
  refine tk 7 (h := ?_)
  refine wpAnyH_done (by kernel_rfl) ?_ _
  obtain ⟨w7, rfl⟩ : ∃ W, W = w4 := ⟨_, rfl⟩
  replace HE := hide (HE.out.below HBC.out)
  replace HPR := hide (HPR.out.below HBC.out)
  replace HKP := hide (HKP.out.below HBC.out)
  replace HRS := hide (HRS.out.below HBC.out)
  replace HKS := hide (HKS.out.below HBC.out)
  replace HFu := hide (HFu.out.below HBC.out)
  replace HB := hide (HB.out.trans (HBC.out.mono HB.out.size))
  clear HBC
  obtain ⟨bb, ob_, cb, hbv, hbc⟩ := grid_open HRS.out.bins (by rw [H_hbl.out]; omega)
  rw [H_hbl.out] at hbv
  obtain ⟨Q, hQQ⟩ : ∃ n, NB + 1 = n := ⟨_, rfl⟩
  rw [hQQ] at hbv
  have HC17 := hide (show w7.cell? ⟨wd.heap.size, 17, none⟩ = some (.slice (some ⟨bb, ob_, none⟩) Q cb) from (HKS.out.cell 17).trans (congrArg some hbv))
  have HBCs := hide hbc
  have HQQ := hide hQQ
  clear hbv hbc hQQ
  obtain ⟨i0, hi, hz0, hz1, hz2⟩ := info_parts infoInt
  have HI0 := hide (And.intro hi (And.intro hz0 (And.intro hz1 hz2)))
  clear hi hz0 hz1 hz2
  go_wp2
  go_loopw [8, 9] (fun hv iv wr => ∃ i : Nat, i ≤ f ∧ iv = .int .i64 (i : Int) ∧ Hid (Below w7.heap.size w7 wr) ∧ Hid (wr.ownsRow w7.heap.size 3 1 hv (((q.bins.drop 1).take i).flatten).length ((((q.bins.drop 1).take i).flatten).flatMap ic))) (fun _ iv _ => f - (Go.RowKit.intOf iv).toNat)
  case atStart => exact ⟨0, Nat.zero_le _, rfl, hide (Below.refl _ _), hide (World.ownsRow_nil _ _ _ _)⟩
  case round =>
    obtain ⟨i, hi, rfl, HBN, HOW⟩ := hrel
    have hpos := HPOS.out
    have hqq := HQQ.out
    by_cases hit : i < f
    · obtain ⟨L, hL1, hL2, hL3⟩ := H_hfull.out i hit
      obtain ⟨Ar, cr, hcb, hrow⟩ := HBCs.out (i + 1) L hL1
      obtain ⟨bf, of_, rfl, hcf⟩ := ints_row HFu.out (H_hfa.out i hit)
      obtain ⟨Ao, co, rfl, hco1, hco2⟩ := own_form HOW.out
      unfold maxLen at hco2
      obtain ⟨n, hn⟩ : ∃ n, L.length = n := ⟨_, rfl⟩
      rw [hn] at hL2 hL3 hcb hrow
      have HCF := hide hcf
      have HCB := hide hcb
      have HROW := hide hrow
      have HSN := hide (held_snoc hL1)
      have HLN := hide hn
      obtain ⟨hn_, hhn⟩ : ∃ k, (((q.bins.drop 1).take i).flatten).length = k := ⟨_, rfl⟩
      have HHN := hide hhn
      rw [hhn] at HOW ⊢
      have hge : decide ((Q : Int) ≤ (i : Int) + 1) = false := by rw [decide_eq_false_iff_not]; omega
      have hgt : decide (p.bn < (n : Int)) = false := by rw [decide_eq_false_iff_not]; omega
      have hnz : ((n : Int) == 0) = false := by rw [beq_eq_false_iff_ne]; omega
      have hnz2 : ¬ n = 0 := by omega
      have hnz3 : ¬ (n : Int) = 0 := by omega
      have hb1 : (i : Int) + 1 < (Q : Int) := by omega
      have hb2 : (0 : Int) ≤ (i : Int) + 1 := by omega
      clear hL1 hL2 hL3 hcf hcb hrow hn hhn
      go_upto_region 12 with (fail)
      have HBC := hide (show Below w7.heap.size w7 wr.drew from ⟨HBN.out.os, HBN.out.tape, HBN.out.output, HBN.out.size, HBN.out.block⟩)
      refine wp_region_held_drew (S := fun w_ => Below w7.heap.size w7 w_) (by kernel_rfl) ?_ (fun hHeld => ?_)
      · exact (by exact HBC.out)
      refine tk 0 (h := ?_)
      refine tk 1 (h := ?_)
      refine tk 2 (h := ?_)
      refine tk 3 (hy := fun w_ h_ => ex_loadc rfl rfl (kept_c h_ HCF.out) Tryz.underlying3 rfl) (h := ?_)
      refine tk 4 (h := ?_)
      refine tk 5 (hy := fun w_ h_ => ex_loadc rfl rfl (kept_c h_ HC17.out) Tryz.underlying22 rfl) (h := ?_)
      refine tk 6 (h := ?_)
      refine tk 7 (h := ?_)
      refine tk 8 (h := ?_)
      refine tk 9 (h := ?_)
      refine tk 10 (hy := fun w_ h_ => ex_loadc rfl rfl (kept_c h_ HC17.out) Tryz.underlying22 rfl) (h := ?_)
      refine tk 11 (h := ?_)
      refine tk 12 (h := ?_)
      refine tk 13 (h := ?_)
      refine tk 14 (hy := fun w_ h_ => ex_loadc rfl rfl (kept_c h_ HCF.out) Tryz.underlying3 rfl) (h := ?_)
      refine tk 15 (h := ?_)
      refine tk 16 (hy := fun w_ h_ => ex_loadc rfl rfl (kept_c h_ HCB.out) Tryz.underlying47 rfl) (h := ?_)
      refine tk 17 (h := ?_)
      refine tk 18 (h := ?_)
      refine tk 19 (h := ?_)
      refine tk 20 (h := ?_)
      refine tk 21 (h := ?_)
      refine tk 22 (hy := fun w_ h_ => ex_loadc rfl rfl (kept_c h_ HC17.out) Tryz.underlying22 rfl) (h := ?_)
      refine tk 23 (h := ?_)
      refine tk 24 (h := ?_)
      refine tk 25 (h := ?_)
      refine tk 26 (hy := fun w_ h_ => ex_loadc rfl rfl (kept_c h_ HCF.out) Tryz.underlying3 rfl) (h := ?_)
      refine tk 27 (h := ?_)
      refine tk 28 (hy := fun w_ h_ => ex_loadc rfl rfl (kept_c h_ HCB.out) Tryz.underlying47 rfl) (h := ?_)
      refine tk 29 (h := ?_)
      refine tk 30 (h := ?_)
      refine tk 31 (hy := fun w_ h_ => ex_load1 rfl rfl (HKP.out.below h_) Tryz.underlying3 rfl rfl) (h := ?_)
      refine tk 32 (h := ?_)
      refine tk 33 (h := ?_)
      refine wpAnyH_done (by kernel_rfl) ?_ _
      obtain ⟨wq, hwq⟩ : ∃ W, wr.drew = W := ⟨_, rfl⟩
      have HOQ := hide (show wq.ownsRow w7.heap.size 3 1 (.slice Ao hn_ co) hn_ _ from by rw [← hwq]; exact HOW.out)
      rw [hwq] at HBC
      rw [hwq]
      clear hwq HOW
      go_upto_region 14 with (fail)
      have HBD := HBC
      replace HBC := hide (show Below w7.heap.size w7 wq.drew from ⟨HBC.out.os, HBC.out.tape, HBC.out.output, HBC.out.size, HBC.out.block⟩)
      have HOD := hide (show wq.drew.ownsRow w7.heap.size 3 1 (.slice Ao hn_ co) hn_ _ from HOQ.out)
      have HBIG := hide (show hn_ ≤ 4000 ∧ n ≤ 4000 from ⟨by rw [← HHN.out]; exact held_few H_hheld.out hit H_hgl.out, by rw [← HLN.out]; exact held_oneSa H_hheld.out hit H_hgl.out HSN.out⟩)
      refine wp_region_held_drew (S := fun w_ => Below w7.heap.size w7 w_) (by kernel_rfl) ?_ (fun hHeld => ?_)
      · exact (by exact HBC.out)
      refine tk 0 (h := ?_)
      refine tk 1 (h := ?_)
      refine tk 2 (hy := fun w_ h_ => ex_loadc rfl rfl (kept_c h_ HC17.out) Tryz.underlying22 rfl) (h := ?_)
      refine tk 3 (h := ?_)
      refine tk 4 (h := ?_)
      refine tk 5 (h := ?_)
      refine tk 6 (hy := fun w_ h_ => ex_loadc rfl rfl (kept_c h_ HCF.out) Tryz.underlying3 rfl) (h := ?_)
      refine tk 7 (h := ?_)
      refine tk 8 (hy := fun w_ h_ => ex_loadc rfl rfl (kept_c h_ HCB.out) Tryz.underlying47 rfl) (h := ?_)
      refine wpAnyH_ready (rs := [9]) (by kernel_rfl) (by simp) ?_
      refine AllReadyH.cons rfl (fun K hK => ?_) AllReadyH.nil
      refine step_append_slT _ rfl _ _ 77 47 rfl w7.heap.size 3 3 i0 (.int .i64 0) 1 8 Tryz.underlying77 Tryz.underlying47 HI0.out.1 HI0.out.2.1 HI0.out.2.2.1 HI0.out.2.2.2 rfl (by decide) _ _ _ rfl HOD.out _ L rfl (Sl.below HROW.out HBC.out) ic_len ic_one1 (by have := HBIG.out; have := HLN.out; unfold maxLen; omega) (by have := HBIG.out; have := HLN.out; omega) HBC.out.size ?_
      intro v4 w4 hown hb
      have HOW := hide hown
      have HBC := hide (HBC.out.trans hb)
      clear hown hb
      (try go_simp)
      refine hK.out _ _ (by exact HBC.out) (fun hHeld => ?_)
      clear hK
      (try simp only [Act.put, List.setIfInBounds_toArray, List.set_cons_zero, List.set_cons_succ])
      refine tk 10 (h := ?_)
      refine wpAnyH_done (by kernel_rfl) ?_ _
      go_wp2
      go_roundw
      case rel => exact ⟨i + 1, by omega, by go_num, HBC, hide (by rw [HSN.out, List.length_append, HHN.out, List.flatMap_append]; exact HOW.out)⟩
      case measure => simp [Go.RowKit.intOf]; omega
    · obtain rfl : f = i := by omega
      rw [H_hheld.out] at HOW
      obtain ⟨Ao, co, rfl, hco1, hco2⟩ := own_form HOW.out
      unfold maxLen at hco2
      obtain ⟨G, hG⟩ : ∃ n, (greyL p).length = n := ⟨_, rfl⟩
      rw [hG] at HOW hco1 ⊢
      have HG := hide hG
      clear hG
      go_wp2
      go_loopw [10] (fun iv wr => ∃ i : Nat, i ≤ NB - f ∧ iv = .int .i64 (i : Int) ∧ Hid (Below w7.heap.size w7 wr) ∧ Hid (wr.ownsRow w7.heap.size 3 1 (.slice Ao G co) G ((greyL p).flatMap ic))) (fun iv _ => NB - f - (Go.RowKit.intOf iv).toNat)
      case atStart => exact ⟨0, Nat.zero_le _, rfl, HBN, HOW⟩
      case round =>
        clear HBN HOW
        obtain ⟨i, hi, rfl, HBN, HOW⟩ := hrel
        by_cases hit : i < NB - f
        · obtain ⟨Ar, cr, hcb, -⟩ := HBCs.out (f + i + 1) [] (H_hempty.out i hit)
          obtain ⟨bf, of_, rfl, hcf⟩ := ints_row HEm.out (H_hea.out i hit)
          obtain ⟨j, hj⟩ : ∃ j, f + i = j := ⟨_, rfl⟩
          rw [hj] at hcb hcf
          have HCF := hide hcf
          have HCB := hide (show w7.cell? ⟨bb, ob_ + (j + 1), none⟩ = some (.slice Ar 0 cr) from hcb)
          have hge : decide ((Q : Int) ≤ (j : Int) + 1) = false := by rw [decide_eq_false_iff_not]; omega
          have hb1 : (j : Int) + 1 < (Q : Int) := by omega
          have hb2 : (0 : Int) ≤ (j : Int) + 1 := by omega
          clear hcf hcb hj
          go_upto_region 18 with (fail)
          have HBC := hide (show Below w7.heap.size w7 wr.drew from ⟨HBN.out.os, HBN.out.tape, HBN.out.output, HBN.out.size, HBN.out.block⟩)
          refine wp_region_held_drew (S := fun w_ => Below w7.heap.size w7 w_) (by kernel_rfl) ?_ (fun hHeld => ?_)
          · exact (by exact HBC.out)
          refine tk 0 (h := ?_)
          refine tk 1 (h := ?_)
          refine tk 2 (h := ?_)
          refine tk 3 (hy := fun w_ h_ => ex_loadc rfl rfl (kept_c h_ HCF.out) Tryz.underlying3 rfl) (h := ?_)
          refine tk 4 (h := ?_)
          refine tk 5 (hy := fun w_ h_ => ex_loadc rfl rfl (kept_c h_ HC17.out) Tryz.underlying22 rfl) (h := ?_)
          refine tk 6 (h := ?_)
          refine tk 7 (h := ?_)
          refine tk 8 (h := ?_)
          refine tk 9 (h := ?_)
          refine tk 10 (hy := fun w_ h_ => ex_loadc rfl rfl (kept_c h_ HC17.out) Tryz.underlying22 rfl) (h := ?_)
          refine tk 11 (h := ?_)
          refine tk 12 (h := ?_)
          refine tk 13 (h := ?_)
          refine tk 14 (hy := fun w_ h_ => ex_loadc rfl rfl (kept_c h_ HCF.out) Tryz.underlying3 rfl) (h := ?_)
          refine tk 15 (h := ?_)
          refine tk 16 (hy := fun w_ h_ => ex_loadc rfl rfl (kept_c h_ HCB.out) Tryz.underlying47 rfl) (h := ?_)
          refine tk 17 (h := ?_)
          refine tk 18 (h := ?_)
          refine tk 19 (h := ?_)
          refine wpAnyH_done (by kernel_rfl) ?_ _
          obtain ⟨wq, hwq⟩ : ∃ W, wr.drew = W := ⟨_, rfl⟩
          have HOQ := hide (show wq.ownsRow w7.heap.size 3 1 (.slice Ao G co) G ((greyL p).flatMap ic) from by rw [← hwq]; exact HOW.out)
          rw [hwq] at HBC
          rw [hwq]
          clear hwq
          go_wp2
          go_roundw
          case rel => exact ⟨i + 1, by omega, by go_num, HBC, HOQ⟩
          case measure => simp [Go.RowKit.intOf]; omega
        · obtain rfl : NB - f = i := by omega
          obtain ⟨Wn, hWn⟩ : ∃ n, p.wk.toNat = n := ⟨_, rfl⟩
          have hwi : p.wk = (Wn : Int) := by have h := HQ.out.rt.rng; unfold pRng at h; omega
          have hw3 : Wn ≤ 3 := by have h := HQ.out.wk; omega
          have HDQ := H_hdq
          have HDD := H_hD
          rw [hWn] at HDQ HDD
          have HWI := hide hwi
          clear hWn hwi
          go_wp2
          go_loopw [11] (fun iv wr => ∃ i : Nat, i ≤ Wn ∧ iv = .int .i64 ((i : Int) + 1) ∧ Hid (Below w7.heap.size w7 wr) ∧ Hid (wr.ownsRow w7.heap.size 3 1 (.slice Ao G co) G ((greyL p).flatMap ic))) (fun iv _ => Wn + 1 - (Go.RowKit.intOf iv).toNat)
          case atStart => exact ⟨0, Nat.zero_le _, rfl, HBN, HOW⟩
          case round =>
            clear HBN HOW
            obtain ⟨k, hk, rfl, HBN, HOW⟩ := hrel
            have c0 : wr.cell? ⟨wb.heap.size, 0, none⟩ = some (.int .i64 (Wn : Int)) := by rw [← HWI.out]; exact (HKP.out.below HBN.out).cell 0
            by_cases hkt : k < Wn
            · have HDk := hide (HDD.out k hkt)
              have HIk := hide (HDQ.out k hkt)
              have hdec : decide ((k : Int) + 1 ≤ (Wn : Int)) = true := by rw [decide_eq_true_eq]; omega
              obtain ⟨D, hDD⟩ : ∃ d, ((topM k p.cp.toNat : Nat) : Int) = d := ⟨_, rfl⟩
              rw [hDD] at HDk HIk
              have HD6 := hide (show I6 D from by rw [← hDD]; exact i6_top HQ.out.rt hk hw3)
              clear hDD
              go_upto_region 23 with (fail)
              clear c0
              have HBC := hide (show Below wr.heap.size wr wr.drew from ⟨rfl, rfl, rfl, Nat.le_refl _, fun _ _ => rfl⟩)
              have HKPr := hide (HKP.out.below HBN.out)
              have HKSr := hide (HKS.out.below HBN.out)
              have HMr := hide (Sl.below HRS.out.m HBN.out)
              refine wp_region_held_drew (S := fun w_ => Below wr.heap.size wr w_) (by kernel_rfl) ?_ (fun hHeld => ?_)
              · exact (by exact HBC.out)
              refine tk 0 (h := ?_)
              refine tk 1 (hy := fun w_ h_ => ex_load1 rfl rfl (HKSr.out.below h_) Tryz.underlying58 rfl rfl) (h := ?_)
              refine tk 2 (hy := fun w_ h_ => ex_loadk (m := (plLSa p (hdV ob) (hdV rg) (hdV pg) (hdV hd0))) rfl rfl (HKPr.out.below h_) Tryz.underlying30 rfl (by kernel_rfl) rfl) (h := ?_)
              refine tk 3 (h := ?_)
              refine tk 5 (h := ?_)
              refine tk 6 (hy := fun w_ h_ => ex_load1 rfl rfl (HKPr.out.below h_) Tryz.underlying3 rfl rfl) (h := ?_)
              refine tk 7 (h := ?_)
              refine wpAnyH_ready (rs := [4]) (by kernel_rfl) (by simp) ?_
              refine AllReadyH.cons rfl (fun K hK => ?_) AllReadyH.nil
              go_simp
              go_at_call 15
              (with_reducible refine (Deque_r p ob rg pg hd0 ((k : Int) + 1) _ D HDk.out).mono ?_)
              rintro x w4 ⟨rfl, hb⟩
              have HBC := hide (bcall HBC.out hb)
              clear hb
              (try go_simp)
              refine hK.out _ _ (by exact HBC.out) (fun hHeld => ?_)
              clear hK
              (try simp only [Act.put, List.setIfInBounds_toArray, List.set_cons_zero, List.set_cons_succ])
              refine wpAnyH_ready (rs := [8]) (by kernel_rfl) (by simp) ?_
              refine AllReadyH.cons rfl (fun K hK => ?_) AllReadyH.nil
              go_simp
              go_at_call 27
              (with_reducible refine (Items_any 0 0 0 0 0 0 0 0 (hdV vs.m) q.m D p.cp _ (Sl.below HMr.out HBC.out) H_hmu.out H_hml.out HD6.out H_hc6.out [] HIk.out 0 rfl).mono ?_)
              rintro x w4 hIE
              obtain ⟨Ai, ci, rfl, hb⟩ := items_none hIE
              clear hIE
              have HBC := hide (bcall HBC.out hb)
              clear hb
              (try go_simp)
              refine hK.out _ _ (by exact HBC.out) (fun hHeld => ?_)
              clear hK
              (try simp only [Act.put, List.setIfInBounds_toArray, List.set_cons_zero, List.set_cons_succ])
              refine tk 9 (h := ?_)
              refine tk 10 (h := ?_)
              refine wpAnyH_done (by kernel_rfl) ?_ _
              obtain ⟨wq, rfl⟩ : ∃ W, W = w4 := ⟨_, rfl⟩
              have HOQ := hide (own_below HOW.out HBC.out)
              replace HBN := hide (bcall HBN.out HBC.out)
              go_wp2
              go_roundw
              case rel => exact ⟨k + 1, by omega, by go_num, HBN, HOQ⟩
              case measure => simp [Go.RowKit.intOf]; omega
            · obtain rfl : Wn = k := by omega
              have hsr : ∃ l, sumB FU EM = l := ⟨_, rfl⟩
              obtain ⟨SM, hSM⟩ := hsr
              obtain ⟨ns, hns⟩ : ∃ n, SM.length = n := ⟨_, rfl⟩
              have hob := H_hob.out
              rw [hSM] at hob
              have HSM := hide hSM
              have HNS := hide hns
              have HOB := hide hob
              have HGI := hide (show Ints wr (.slice Ao G co) (greyL p) from Sl.of_own ic_len (by rw [HG.out]; exact HOW.out))
              have HFr := hide (Sl.below HFu.out HBN.out)
              have HEr := hide (Sl.below HEm.out HBN.out)
              have HKSM := hide (sum_k H_hkf.out H_hke.out HSM.out)
              clear hSM hns hob
              obtain ⟨wz, rfl⟩ : ∃ W, W = wr := ⟨_, rfl⟩
              go_upto_region 27 with (first
                | (go_at_call 29; (with_reducible refine (Sum_c _ _ FU EM _ (Sl.below HFr.out HB1.out) (Sl.below HEr.out HB1.out) H_hkf.out H_hke.out (by rw [H_hfl.out, H_hel.out]; omega) SM HSM.out ns HNS.out).mono ?_); rintro e_ wy ⟨As, cs, rfl, -, hSi, hb⟩; have HSi := hide hSi; have HB2 := hide (bcall HB1.out hb); clear hb hSi)
                | (go_at_call 28; (with_reducible refine (once_r _ (greyL p) _ HGI.out (grey_k p) (pGreys p) H_hog.out.2 H_hog.out.1).mono ?_); rintro e_ wx ⟨rfl, hb⟩; have HB1 := hide hb; clear hb)
                | (go_at_call 28; (with_reducible refine (once_r _ SM _ HSi.out HKSM.out (firstF NB) HOB.out.2 HOB.out.1).mono ?_); rintro e_ wv ⟨rfl, hb⟩; have HB3 := hide (bcall HB2.out hb); clear hb))
              have HKPv := hide ((HKP.out.below HBN.out).below HB3.out)
              have HKSv := hide ((HKS.out.below HBN.out).below HB3.out)
              have HPRv := hide ((HPR.out.below HBN.out).below HB3.out)
              have HC20 := hide (show wv.cell? ⟨wd.heap.size, 20, none⟩ = some (.int .i64 ((cntF (pGreys p) : Nat) : Int)) by rw [← H_hwork.out.1]; exact HKSv.out.cell 20)
              have HC18 := hide (show wv.cell? ⟨wd.heap.size, 18, none⟩ = some (.int .u64 ((pGreys p : Nat) : Int)) by rw [← H_hwork.out.2.1]; exact HKSv.out.cell 18)
              have HC19 := hide (show wv.cell? ⟨wd.heap.size, 19, none⟩ = some (.int .u64 0) from (HKSv.out.cell 19).trans (by rw [show (stL q vs)[19]? = some (.int .u64 ((q.black : Nat) : Int)) from rfl, H_hwork.out.2.2]; rfl))
              obtain ⟨gI, hgI⟩ : ∃ x : Int, ((pGreys p : Nat) : Int) = x := ⟨_, rfl⟩
              obtain ⟨fI, hfI⟩ : ∃ x : Int, ((firstF NB : Nat) : Int) = x := ⟨_, rfl⟩
              obtain ⟨cI, hcI⟩ : ∃ x : Int, ((cntF (pGreys p) : Nat) : Int) = x := ⟨_, rfl⟩
              rw [hgI] at HC18 ⊢
              rw [hcI] at HC20
              rw [hfI]
              have HGI_ := hide hgI
              have HFI_ := hide hfI
              have HCI_ := hide hcI
              clear hgI hfI hcI
              have HBC := hide (show Below wv.heap.size wv wv.drew from ⟨rfl, rfl, rfl, Nat.le_refl _, fun _ _ => rfl⟩)
              refine wp_region_held_drew (S := fun w_ => Below wv.heap.size wv w_) (by kernel_rfl) ?_ (fun hHeld => ?_)
              · exact (by exact HBC.out)
              refine tk 0 (h := ?_)
              refine tk 1 (h := ?_)
              refine tk 2 (h := ?_)
              refine tk 3 (h := ?_)
              refine tk 4 (h := ?_)
              refine tk 5 (h := ?_)
              refine tk 6 (hy := fun w_ h_ => ex_loadk (m := (plLSa p (hdV ob) (hdV rg) (hdV pg) (hdV hd0))) rfl rfl (HKPv.out.below h_) Tryz.underlying30 rfl (by kernel_rfl) rfl) (h := ?_)
              refine wpAnyH_ready (rs := [7]) (by kernel_rfl) (by simp) ?_
              refine AllReadyH.cons rfl (fun K hK => ?_) AllReadyH.nil
              go_simp
              go_at_call 30
              (with_reducible refine (greys_i p ob rg pg hd0 HQ.out.rt HQ.out.ro _ (HPRv.out.below HBC.out).rg gI HGI_.out).mono ?_)
              rintro x w4 ⟨rfl, hb⟩
              have HBC := hide (bcall HBC.out hb)
              clear hb
              (try go_simp)
              refine hK.out _ _ (by exact HBC.out) (fun hHeld => ?_)
              clear hK
              (try simp only [Act.put, List.setIfInBounds_toArray, List.set_cons_zero, List.set_cons_succ])
              refine tk 8 (h := ?_)
              refine tk 9 (h := ?_)
              refine tk 10 (h := ?_)
              refine tk 11 (h := ?_)
              refine tk 12 (h := ?_)
              refine tk 13 (h := ?_)
              refine tk 14 (h := ?_)
              refine tk 15 (hy := fun w_ h_ => ex_loadk (m := (plLSa p (hdV ob) (hdV rg) (hdV pg) (hdV hd0))) rfl rfl (HKPv.out.below h_) Tryz.underlying30 rfl (by kernel_rfl) rfl) (h := ?_)
              refine wpAnyH_ready (rs := [16]) (by kernel_rfl) (by simp) ?_
              refine AllReadyH.cons rfl (fun K hK => ?_) AllReadyH.nil
              go_simp
              go_at_call 32
              (with_reducible refine (Bins_r p ob rg pg hd0 _ (NB : Int) H_hbr.out).mono ?_)
              rintro x w4 ⟨rfl, hb⟩
              have HBC := hide (bcall HBC.out hb)
              clear hb
              (try go_simp)
              refine hK.out _ _ (by exact HBC.out) (fun hHeld => ?_)
              clear hK
              (try simp only [Act.put, List.setIfInBounds_toArray, List.set_cons_zero, List.set_cons_succ])
              refine wpAnyH_ready (rs := [17]) (by kernel_rfl) (by simp) ?_
              refine AllReadyH.cons rfl (fun K hK => ?_) AllReadyH.nil
              go_simp
              go_at_call 31
              (with_reducible refine (first_i NB (by omega) fI HFI_.out _).mono ?_)
              rintro x w4 ⟨rfl, hb⟩
              have HBC := hide (bcall HBC.out hb)
              clear hb
              (try go_simp)
              refine hK.out _ _ (by exact HBC.out) (fun hHeld => ?_)
              clear hK
              (try simp only [Act.put, List.setIfInBounds_toArray, List.set_cons_zero, List.set_cons_succ])
              refine tk 18 (h := ?_)
              refine tk 19 (h := ?_)
              refine tk 20 (h := ?_)
              refine tk 21 (h := ?_)
              refine tk 22 (hy := fun w_ h_ => ex_loadc rfl rfl (kept_c h_ HC20.out) Tryz.underlying3 rfl) (h := ?_)
              refine tk 23 (h := ?_)
              refine wpAnyH_ready (rs := [24]) (by kernel_rfl) (by simp) ?_
              refine AllReadyH.cons rfl (fun K hK => ?_) AllReadyH.nil
              go_simp
              go_at_call 33
              (with_reducible refine (count_i (pGreys p) H_hgs.out gI HGI_.out cI HCI_.out _).mono ?_)
              rintro x w4 ⟨rfl, hb⟩
              have HBC := hide (bcall HBC.out hb)
              clear hb
              (try go_simp)
              refine hK.out _ _ (by exact HBC.out) (fun hHeld => ?_)
              clear hK
              (try simp only [Act.put, List.setIfInBounds_toArray, List.set_cons_zero, List.set_cons_succ])
              refine tk 25 (h := ?_)
              refine tk 26 (h := ?_)
              refine tk 27 (h := ?_)
              refine tk 28 (h := ?_)
              refine tk 29 (h := ?_)
              refine tk 30 (hy := fun w_ h_ => ex_loadc rfl rfl (kept_c h_ HC18.out) Tryz.underlying26 rfl) (h := ?_)
              refine tk 31 (h := ?_)
              refine tk 32 (h := ?_)
              refine tk 33 (h := ?_)
              refine tk 34 (h := ?_)
              refine tk 35 (h := ?_)
              refine tk 36 (h := ?_)
              refine tk 37 (hy := fun w_ h_ => ex_loadc rfl rfl (kept_c h_ HC19.out) Tryz.underlying26 rfl) (h := ?_)
              refine tk 38 (h := ?_)
              refine tk 39 (h := ?_)
              refine tk 40 (h := ?_)
              refine wpAnyH_done (by kernel_rfl) ?_ _
              go_wp2
              go_ret
              exact ⟨rfl, HB.out.trans ((HBN.out.trans ((bcall HB3.out HBC.out).mono HBN.out.size)).mono HB.out.size)⟩
end Go.Proofs.YtdmbcjckgfjcaaaGreatDoor
