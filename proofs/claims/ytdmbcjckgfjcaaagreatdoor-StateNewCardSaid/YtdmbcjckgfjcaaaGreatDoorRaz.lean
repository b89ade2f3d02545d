import Derived.RangeFuncBox
import Derived.RangeFuncNested
import Derived.RangeFuncBound
import Derived.RangeFuncCalls
import Derived.RangeFuncLeaves
import Derived.Test.YtdmbcjckgfjcaaaGreatDoorRay
import Derived.Test.YtdmbcjckgfjcaaaGreatDoorRaj
/- Layer state: copiedHeap, copiedPlan, Copy. Written by tools/genstate5.py. -/
namespace Go.Proofs.YtdmbcjckgfjcaaaGreatDoor
open Go.RowKit Go.Joins
abbrev plLSa (q : Pq) (ob rg pg pk : Value) : List Value := [.int .i64 q.wk, .int .i64 q.mu, .int .i64 q.cp, .int .i64 q.bf, .int .i64 q.bn, .int .i64 q.mo, .int .i64 q.pr, .int .i64 q.li, .int .i64 q.sl, ob, .int .u64 (q.ro : Int), rg, pg, pk]
abbrev pl0 : List Value := [.int .i64 0, .int .i64 0, .int .i64 0, .int .i64 0, .int .i64 0, .int .i64 0, .int .i64 0, .int .i64 0, .int .i64 0, .slice none 0 0, .int .u64 0, .slice none 0 0, .slice none 0 0, .slice none 0 0]
theorem plA_one (q : Pq) (ob rg pg pk : Hd) : (plLSa q (hdV ob) (hdV rg) (hdV pg) (hdV pk)).toArray.all (fun u => u.oneCell') = true := by rw [List.all_toArray]; rfl
theorem hpA_one (n : Int) (b : Hd) : (([.int .i64 n, hdV b] : List Value)).toArray.all (fun u => u.oneCell') = true := by rw [List.all_toArray]; rfl
theorem grown_setSa (w : World) (B i : Nat) (u : Value) : w.grownBy (w.setCell ⟨B, i, none⟩ u) (some B) := ⟨rfl, rfl, rfl, by simp, fun k _ hk => Below.heap_setCell w ⟨B, i, none⟩ u k (fun e => hk (by rw [e]))⟩
theorem grown_row (w : World) (B : Nat) (cs : Array Value) : w.grownBy (w.setRow B cs) (some B) := ⟨rfl, rfl, rfl, by simp, fun k _ hk => setRow_other w B k cs (fun e => hk (by rw [e]))⟩
/-- what a plan's slices read as, all in blocks from b on -/
structure PlanN (b : Nat) (w : World) (ob rg pg pk : Value) (p : Pq) : Prop where
  ob : OwnRows 47 3 b w ob p.ob
  rg : OwnRows 47 3 b w rg p.rg
  pg : OwnRowsO b w pg p.pg
  pk : w.ownsRow b 179 2 pk p.pk.length (p.pk.flatMap pc)
section
variable {b G : Nat} {w w' : World} {ob rg pg pk : Value} {p : Pq}
theorem PlanN.below (h : PlanN b w ob rg pg pk p) (hb : Below w.heap.size w w') : PlanN b w' ob rg pg pk p := ⟨h.ob.below hb, h.rg.below hb, h.pg.below hb, own_below h.pk hb⟩
theorem PlanN.grown (h : PlanN b w ob rg pg pk p) (hg : w.grownBy w' (some G)) (hG : G < b) : PlanN b w' ob rg pg pk p := ⟨h.ob.grown hg hG, h.rg.grown hg hG, h.pg.grown hg hG, own_grown h.pk hg hG⟩
theorem PlanN.le (h : PlanN b w ob rg pg pk p) {c : Nat} (hc : c ≤ b) : PlanN c w ob rg pg pk p := ⟨h.ob.le hc, h.rg.le hc, h.pg.le hc, own_base h.pk hc⟩
theorem PlanN.read (h : PlanN b w ob rg pg pk p) : PlanR w ob rg pg pk p := ⟨h.ob.grid, h.rg.grid, h.pg.grid, Sl.of_own pc_len h.pk⟩
end
/-- machines that are the call's own -/
def OwnWs (b : Nat) (w : World) (v : Value) (ws : List Wq) : Prop := ∃ es : List Wv, w.ownsRow b 102 44 v ws.length (es.flatMap wkE) ∧ es.length = ws.length ∧ ∀ (i : Nat) x q, es[i]? = some x → ws[i]? = some q → RW b w x q
def OwnUs (b : Nat) (w : World) (v : Value) (us : List Uq) : Prop := ∃ es : List Uv, w.ownsRow b 93 41 v us.length (es.flatMap utE) ∧ es.length = us.length ∧ ∀ (i : Nat) x q, es[i]? = some x → us[i]? = some q → RU b w x q
section
variable {b G : Nat} {w w' : World} {v : Value} {ws : List Wq} {us : List Uq}
theorem OwnWs.below (h : OwnWs b w v ws) (hb : Below w.heap.size w w') : OwnWs b w' v ws := by
  obtain ⟨es, h1, h2, h3⟩ := h
  exact ⟨es, own_below h1 hb, h2, fun i x q hx hq => (h3 i x q hx hq).below hb⟩
theorem OwnWs.grown (h : OwnWs b w v ws) (hg : w.grownBy w' (some G)) (hG : G < b) : OwnWs b w' v ws := by
  obtain ⟨es, h1, h2, h3⟩ := h
  exact ⟨es, own_grown h1 hg hG, h2, fun i x q hx hq => (h3 i x q hx hq).grown hg hG⟩
theorem OwnWs.le (h : OwnWs b w v ws) {c : Nat} (hc : c ≤ b) : OwnWs c w v ws := by
  obtain ⟨es, h1, h2, h3⟩ := h
  exact ⟨es, own_base h1 hc, h2, fun i x q hx hq => (h3 i x q hx hq).le hc⟩
theorem OwnWs.read (h : OwnWs b w v ws) : Wks w v ws := by
  obtain ⟨es, h1, h2, h3⟩ := h
  exact ⟨es, Sl.of_own wkE_len (by rw [h2]; exact h1), h2, fun i x q hx hq => (h3 i x q hx hq).read⟩
theorem OwnUs.below (h : OwnUs b w v us) (hb : Below w.heap.size w w') : OwnUs b w' v us := by
  obtain ⟨es, h1, h2, h3⟩ := h
  exact ⟨es, own_below h1 hb, h2, fun i x q hx hq => (h3 i x q hx hq).below hb⟩
theorem OwnUs.grown (h : OwnUs b w v us) (hg : w.grownBy w' (some G)) (hG : G < b) : OwnUs b w' v us := by
  obtain ⟨es, h1, h2, h3⟩ := h
  exact ⟨es, own_grown h1 hg hG, h2, fun i x q hx hq => (h3 i x q hx hq).grown hg hG⟩
theorem OwnUs.le (h : OwnUs b w v us) {c : Nat} (hc : c ≤ b) : OwnUs c w v us := by
  obtain ⟨es, h1, h2, h3⟩ := h
  exact ⟨es, own_base h1 hc, h2, fun i x q hx hq => (h3 i x q hx hq).le hc⟩
theorem OwnUs.read (h : OwnUs b w v us) : Uts w v us := by
  obtain ⟨es, h1, h2, h3⟩ := h
  exact ⟨es, Sl.of_own utE_len (by rw [h2]; exact h1), h2, fun i x q hx hq => (h3 i x q hx hq).read⟩
end
theorem own_wks (v : Value) (ws : List Wq) (w : World) (h : Wks w v ws) (hsm : ∀ q ∈ ws, SmW q) (hbig : ws.length * 368 ≤ 140737488351232) :
    Calls Tryz.prog 86 #[v, .func (.func 87) #[] #[]] w fun e w' => ∃ v' : Hd, e = .returned (hdV v') ∧ OwnWs w.heap.size w' (hdV v') ws ∧ Below w.heap.size w w' := by
  refine (each_wks v ws w h hsm hbig).mono ?_
  rintro e w' ⟨v', es, rfl, h1, h2, h3, hb⟩
  obtain ⟨x, rfl, -⟩ := hd_of (Sl.of_own (l := es) wkE_len (by rw [h2]; exact h1))
  exact ⟨x, rfl, ⟨es, h1, h2, h3⟩, hb⟩
theorem own_uts (v : Value) (us : List Uq) (w : World) (h : Uts w v us) (hsm : ∀ q ∈ us, SmU q) (hbig : us.length * 376 ≤ 140737488351232) :
    Calls Tryz.prog 88 #[v, .func (.func 89) #[] #[]] w fun e w' => ∃ v' : Hd, e = .returned (hdV v') ∧ OwnUs w.heap.size w' (hdV v') us ∧ Below w.heap.size w w' := by
  refine (each_uts v us w h hsm hbig).mono ?_
  rintro e w' ⟨v', es, rfl, h1, h2, h3, hb⟩
  obtain ⟨x, rfl, -⟩ := hd_of (Sl.of_own (l := es) utE_len (by rw [h2]; exact h1))
  exact ⟨x, rfl, ⟨es, h1, h2, h3⟩, hb⟩
/-- some cells of a block that is known stored -/
theorem wpList_store_bc {P : Program} {ops : Array Oper} {rest : List Oper} {op : Oper} {a : Act} {w : World} {Q : Exit → Act → World → Prop} (hgd : op.guard = none) (ty : TypeId) (x y : Operand) (ho : op.op = .store ty x y)
    (B o : Nat) (hx : a.eval x = .pointer (some ⟨B, o, none⟩)) (cs : List Value) (hy : a.eval y = .agg cs.toArray) (t : TypeId) (l : List Value) (hk : Bc t w B l) (hi : (P.info? ty).map (·.size) = some cs.length) (hfit : o + cs.length ≤ l.length) (h1 : ∀ v ∈ cs, v.oneCell' = true) (m : List Value) (hm : l.take o ++ cs ++ l.drop (o + cs.length) = m)
    (h : wpList P ops Q rest (a.put op.dst undef) (w.setRow B m.toArray)) : wpList P ops Q (op :: rest) a w :=
  wpList_plain hgd fun _ hK => by
    subst hm
    unfold Oper.wp execOp
    simp only [ho, hx, hy, Instr.storeAt, Instr.sureAddr, Sem.run_bind, Sem.run_pure, Result.andThen_ok, run_storeVar_seg w B o t ty l.toArray cs hk hi (by simpa using hfit) h1]
    exact hK _ _ h
theorem bc_row {t : TypeId} {w : World} {B : Nat} {l : List Value} (h : Bc t w B l) (m : List Value) : Bc t (w.setRow B m.toArray) B m := setRow_heap w B _ _ t _ h
theorem bc_rowO {t : TypeId} {w : World} {B C : Nat} {l : List Value} (h : Bc t w B l) (hne : B ≠ C) (m : Array Value) : Bc t (w.setRow C m) B l := (setRow_other w C B m hne).trans h
set_option maxRecDepth 100000 in
set_option maxHeartbeats 4000000 in
theorem copiedHeap_any (n : Int) (b : Hd) (ls : Rws) (w : World) (h : Grid w (hdV b) ls) (hsm : ∀ l ∈ ls, l.length * 8 ≤ 140737488351232) (hbig : ls.length * 24 ≤ 140737488351232) :
    Calls Tryz.prog 56 #[.agg #[.int .i64 n, hdV b]] w fun e w' => ∃ b' : Hd, e = .returned (.agg #[.int .i64 n, hdV b']) ∧ OwnRows 47 3 w.heap.size w' (hdV b') ls ∧ Below w.heap.size w w' := by
  obtain ⟨w1, e1, k1, k2, hb1, hs1⟩ := two_box w ([.int .i64 n, hdV b] : List Value) [.int .i64 0, .slice none 0 0] 24 24
  have E1 := hide e1
  have K10 := hide k1
  have K20 := hide k2
  have HB0 := hide hb1
  have hs0 : w.heap.size + 2 ≤ w1.heap.size := by omega
  have R_h := hide h
  clear e1 k1 k2 hb1 h
  go_enter Tryz.func56, Tryz.ntmps56
  have c1 : w1.cell? ⟨w.heap.size, 1, none⟩ = some (hdV b) := K10.out.cell 1
  go_upto_region 1 with (fail)
  rw [E1.out]
  go_wp2_with fail
  (with_reducible refine (rows_any _ ls _ (R_h.out.below HB0.out) hsm hbig).mono ?_)
  rintro e w2 ⟨b', rfl, hown, hb⟩
  have hs1 := Nat.le_trans hs0 hb.size
  have K11 := hide (show Bc 24 _ _ ([.int .i64 n, hdV b'] : List Value) from (K10.out.below hb).set 1 (hdV b'))
  have K21 := hide (bc_other (K20.out.below hb) (by omega : w.heap.size + 1 ≠ w.heap.size) 1 (hdV b'))
  have HB1 := hide ((HB0.out.trans (hb.mono HB0.out.size)).setCell (p := ⟨w.heap.size, 1, none⟩) (Nat.le_refl _) (hdV b'))
  have hGR := grown_setSa w2 w.heap.size 1 (hdV b')
  have HO0 := hide ((hown.le hs0).grown hGR (by omega : w.heap.size < w.heap.size + 2))
  have c1 : w2.cell? ⟨w.heap.size, 1, none⟩ = some (hdV b) := (K10.out.below hb).cell 1
  have f1 := (K10.out.below hb).free 1
  obtain ⟨wk0, ek⟩ : ∃ W, w2.setCell ⟨w.heap.size, 1, none⟩ (hdV b') = W := ⟨_, rfl⟩
  have hsk : w2.heap.size = wk0.heap.size := by rw [← ek]; simp [World.setCell]
  rw [ek] at K11 K21 HB1 HO0
  rw [hsk] at hs1
  have EK0 := hide ek
  clear hb ek hsk hGR
  clear hown
  have HN := hide (setRow_heap _ _ _ (([.int .i64 n, hdV b'] : List Value)).toArray _ _ K21.out)
  go_upto_region 2 with (fail)
  rw [EK0.out]
  clear c1 f1
  go_wp2_with (first
    | (refine wpList_load_row rfl 24 (.tmp 1) rfl w.heap.size rfl (([.int .i64 n, hdV b'] : List Value)).toArray _ _ _ K11.out Tryz.underlying24 rfl (by kernel_rfl) ?_)
    | (refine wpList_store_row rfl 24 (.tmp 2) (.tmp 7) rfl (w.heap.size + 1) rfl (([.int .i64 n, hdV b'] : List Value)).toArray rfl _ _ K21.out (by kernel_rfl) rfl (hpA_one n b') ?_))
  refine bodyPost_ret (results_row Tryz.results56 (w.heap.size + 1) rfl _ _ _ _ HN.out Tryz.underlying24 rfl (by kernel_rfl)) rfl ?_
  have hGR := grown_row wk0 (w.heap.size + 1) (([.int .i64 n, hdV b'] : List Value)).toArray
  have hG1 : w.heap.size + 1 < w.heap.size + 2 := by omega
  exact ⟨b', rfl, (HO0.out.grown hGR hG1).le (by omega), below_setRow HB1.out (by omega) _⟩
set_option maxRecDepth 100000 in
set_option maxHeartbeats 4000000 in
theorem copiedPlan_any (q : Pq) (ob rg pg pk : Hd) (w : World) (hP : PlanR w (hdV ob) (hdV rg) (hdV pg) (hdV pk) q) (s0 : ∀ l ∈ q.ob, l.length * 8 ≤ 140737488351232) (b0 : q.ob.length * 24 ≤ 140737488351232) (s1 : ∀ l ∈ q.rg, l.length * 8 ≤ 140737488351232) (b1 : q.rg.length * 24 ≤ 140737488351232) (s2 : ∀ l ∈ q.pg, l.length * 32 ≤ 140737488351232) (b2 : q.pg.length * 24 ≤ 140737488351232) (b3 : q.pk.length * 16 ≤ 140737488351232) :
    Calls Tryz.prog 55 #[.agg (plLSa q (hdV ob) (hdV rg) (hdV pg) (hdV pk)).toArray] w fun e w' => ∃ ob' rg' pg' pk' : Hd, e = .returned (.agg (plLSa q (hdV ob') (hdV rg') (hdV pg') (hdV pk')).toArray) ∧ PlanN w.heap.size w' (hdV ob') (hdV rg') (hdV pg') (hdV pk') q ∧ Below w.heap.size w w' := by
  obtain ⟨h0, h1, h2, h3⟩ := hP
  obtain ⟨w1, e1, k1, k2, hb1, hs1⟩ := two_box w (plLSa q (hdV ob) (hdV rg) (hdV pg) (hdV pk)) pl0 30 30
  have E1 := hide e1
  have K10 := hide k1
  have K20 := hide k2
  have HB0 := hide hb1
  have hs0 : w.heap.size + 2 ≤ w1.heap.size := by omega
  have R_h0 := hide h0
  have R_h1 := hide h1
  have R_h2 := hide h2
  have R_h3 := hide h3
  clear e1 k1 k2 hb1 h0 h1 h2 h3
  go_enter Tryz.func55, Tryz.ntmps55
  have c8 : w1.cell? ⟨w.heap.size, 8, none⟩ = some (.int .i64 q.sl) := K10.out.cell 8
  have HCL : Hid (∀ (j_ : Nat) v_, [(.int .i64 q.sl), (hdV ob)][j_]? = some v_ → w1.cell? ⟨w.heap.size, 8 + j_, none⟩ = some v_) := fun j_ v_ hv => by
    match j_, hv with
    | 0, hv => rw [← hv]; exact K10.out.cell 8
    | 1, hv => rw [← hv]; exact K10.out.cell 9
  go_upto_region 1 with (fail)
  rw [E1.out]
  go_wp2_with (refine wpList_load_seg rfl 24 (.tmp 3) rfl w.heap.size 8 rfl [(.int .i64 q.sl), (hdV ob)] _ HCL Tryz.underlying24 rfl (by kernel_rfl) ?_)
  (with_reducible refine (copiedHeap_any q.sl ob q.ob _ (R_h0.out.below HB0.out) s0 b0).mono ?_)
  rintro e w2 ⟨ob', rfl, hown, hb⟩
  have hs1 := Nat.le_trans hs0 hb.size
  have K11 := hide (bc_row (K10.out.below hb) (plLSa q (hdV ob') (hdV rg) (hdV pg) (hdV pk)))
  have K21 := hide (bc_rowO (K20.out.below hb) (by omega : w.heap.size + 1 ≠ w.heap.size) ((plLSa q (hdV ob') (hdV rg) (hdV pg) (hdV pk))).toArray)
  have HB1 := hide (below_setRow (HB0.out.trans (hb.mono HB0.out.size)) (Nat.le_refl _) ((plLSa q (hdV ob') (hdV rg) (hdV pg) (hdV pk))).toArray)
  have hGR := grown_row w2 w.heap.size ((plLSa q (hdV ob') (hdV rg) (hdV pg) (hdV pk))).toArray
  have HO0 := hide ((hown.le hs0).grown hGR (by omega : w.heap.size < w.heap.size + 2))
  have c8 : w2.cell? ⟨w.heap.size, 8, none⟩ = some (.int .i64 q.sl) := (K10.out.below hb).cell 8
  have f8 := (K10.out.below hb).free 8
  have HKB := hide (K10.out.below hb)
  obtain ⟨wk0, ek⟩ : ∃ W, w2.setRow w.heap.size ((plLSa q (hdV ob') (hdV rg) (hdV pg) (hdV pk))).toArray = W := ⟨_, rfl⟩
  have hsk : w2.heap.size = wk0.heap.size := by rw [← ek]; simp
  rw [ek] at K11 K21 HB1 HO0
  rw [hsk] at hs1
  have EK0 := hide ek
  clear hb ek hsk hGR
  clear hown
  have c11 : wk0.cell? ⟨w.heap.size, 11, none⟩ = some (hdV rg) := K11.out.cell 11
  go_upto_region 2 with (refine wpList_store_bc rfl 24 (.tmp 6) (.tmp 5) rfl w.heap.size 8 rfl [.int .i64 q.sl, hdV ob'] rfl _ _ HKB.out (by kernel_rfl) (Nat.le_of_ble_eq_true rfl) (List.all_eq_true.1 rfl) (plLSa q (hdV ob') (hdV rg) (hdV pg) (hdV pk)) rfl ?_)
  rw [EK0.out]
  clear c8 f8 HCL HKB
  go_wp2_with fail
  (with_reducible refine (rows_any _ q.rg _ (R_h1.out.below HB1.out) s1 b1).mono ?_)
  rintro e w3 ⟨rg', rfl, hown, hb⟩
  have hs2 := Nat.le_trans hs1 hb.size
  have K12 := hide (show Bc 30 _ _ (plLSa q (hdV ob') (hdV rg') (hdV pg) (hdV pk)) from (K11.out.below hb).set 11 (hdV rg'))
  have K22 := hide (bc_other (K21.out.below hb) (by omega : w.heap.size + 1 ≠ w.heap.size) 11 (hdV rg'))
  have HB2 := hide ((HB1.out.trans (hb.mono HB1.out.size)).setCell (p := ⟨w.heap.size, 11, none⟩) (Nat.le_refl _) (hdV rg'))
  have hGR := grown_setSa w3 w.heap.size 11 (hdV rg')
  have HO0 := hide (((HO0.out).below hb).grown hGR (by omega : w.heap.size < w.heap.size + 2))
  have HO1 := hide ((hown.le hs1).grown hGR (by omega : w.heap.size < w.heap.size + 2))
  have c11 : w3.cell? ⟨w.heap.size, 11, none⟩ = some (hdV rg) := (K11.out.below hb).cell 11
  have f11 := (K11.out.below hb).free 11
  obtain ⟨wk1, ek⟩ : ∃ W, w3.setCell ⟨w.heap.size, 11, none⟩ (hdV rg') = W := ⟨_, rfl⟩
  have hsk : w3.heap.size = wk1.heap.size := by rw [← ek]; simp [World.setCell]
  rw [ek] at K12 K22 HB2 HO0 HO1
  rw [hsk] at hs2
  have EK1 := hide ek
  clear hb ek hsk hGR
  clear hown
  have c12 : wk1.cell? ⟨w.heap.size, 12, none⟩ = some (hdV pg) := K12.out.cell 12
  go_upto_region 3 with (fail)
  rw [EK1.out]
  clear c11 f11
  go_wp2_with fail
  (with_reducible refine (rowsO_any _ q.pg _ (R_h2.out.below HB2.out) s2 b2).mono ?_)
  rintro e w4 ⟨pg', rfl, hown, hb⟩
  have hs3 := Nat.le_trans hs2 hb.size
  have K13 := hide (show Bc 30 _ _ (plLSa q (hdV ob') (hdV rg') (hdV pg') (hdV pk)) from (K12.out.below hb).set 12 (hdV pg'))
  have K23 := hide (bc_other (K22.out.below hb) (by omega : w.heap.size + 1 ≠ w.heap.size) 12 (hdV pg'))
  have HB3 := hide ((HB2.out.trans (hb.mono HB2.out.size)).setCell (p := ⟨w.heap.size, 12, none⟩) (Nat.le_refl _) (hdV pg'))
  have hGR := grown_setSa w4 w.heap.size 12 (hdV pg')
  have HO0 := hide (((HO0.out).below hb).grown hGR (by omega : w.heap.size < w.heap.size + 2))
  have HO1 := hide (((HO1.out).below hb).grown hGR (by omega : w.heap.size < w.heap.size + 2))
  have HO2 := hide ((hown.le hs2).grown hGR (by omega : w.heap.size < w.heap.size + 2))
  have c12 : w4.cell? ⟨w.heap.size, 12, none⟩ = some (hdV pg) := (K12.out.below hb).cell 12
  have f12 := (K12.out.below hb).free 12
  obtain ⟨wk2, ek⟩ : ∃ W, w4.setCell ⟨w.heap.size, 12, none⟩ (hdV pg') = W := ⟨_, rfl⟩
  have hsk : w4.heap.size = wk2.heap.size := by rw [← ek]; simp [World.setCell]
  rw [ek] at K13 K23 HB3 HO0 HO1 HO2
  rw [hsk] at hs3
  have EK2 := hide ek
  clear hb ek hsk hGR
  clear hown
  have c13 : wk2.cell? ⟨w.heap.size, 13, none⟩ = some (hdV pk) := K13.out.cell 13
  go_upto_region 4 with (fail)
  rw [EK2.out]
  clear c12 f12
  go_wp2_with fail
  (with_reducible refine (Clone_picks _ q.pk _ (R_h3.out.below HB3.out) b3).mono ?_)
  rintro e w5 ⟨v', rfl, hown, hb⟩
  obtain ⟨pk', rfl, -⟩ := hd_of (Sl.of_own pc_len hown)
  have hs4 := Nat.le_trans hs3 hb.size
  have K14 := hide (show Bc 30 _ _ (plLSa q (hdV ob') (hdV rg') (hdV pg') (hdV pk')) from (K13.out.below hb).set 13 (hdV pk'))
  have K24 := hide (bc_other (K23.out.below hb) (by omega : w.heap.size + 1 ≠ w.heap.size) 13 (hdV pk'))
  have HB4 := hide ((HB3.out.trans (hb.mono HB3.out.size)).setCell (p := ⟨w.heap.size, 13, none⟩) (Nat.le_refl _) (hdV pk'))
  have hGR := grown_setSa w5 w.heap.size 13 (hdV pk')
  have HO0 := hide (((HO0.out).below hb).grown hGR (by omega : w.heap.size < w.heap.size + 2))
  have HO1 := hide (((HO1.out).below hb).grown hGR (by omega : w.heap.size < w.heap.size + 2))
  have HO2 := hide (((HO2.out).below hb).grown hGR (by omega : w.heap.size < w.heap.size + 2))
  have HO3 := hide (own_grown (own_base hown hs3) hGR (by omega : w.heap.size < w.heap.size + 2))
  have c13 : w5.cell? ⟨w.heap.size, 13, none⟩ = some (hdV pk) := (K13.out.below hb).cell 13
  have f13 := (K13.out.below hb).free 13
  obtain ⟨wk3, ek⟩ : ∃ W, w5.setCell ⟨w.heap.size, 13, none⟩ (hdV pk') = W := ⟨_, rfl⟩
  have hsk : w5.heap.size = wk3.heap.size := by rw [← ek]; simp [World.setCell]
  rw [ek] at K14 K24 HB4 HO0 HO1 HO2 HO3
  rw [hsk] at hs4
  have EK3 := hide ek
  clear hb ek hsk hGR
  clear hown
  have HN := hide (setRow_heap _ _ _ ((plLSa q (hdV ob') (hdV rg') (hdV pg') (hdV pk'))).toArray _ _ K24.out)
  go_upto_region 5 with (fail)
  rw [EK3.out]
  clear c13 f13
  go_wp2_with (first
    | (refine wpList_load_row rfl 30 (.tmp 1) rfl w.heap.size rfl ((plLSa q (hdV ob') (hdV rg') (hdV pg') (hdV pk'))).toArray _ _ _ K14.out Tryz.underlying30 rfl (by kernel_rfl) ?_)
    | (refine wpList_store_row rfl 30 (.tmp 2) (.tmp 19) rfl (w.heap.size + 1) rfl ((plLSa q (hdV ob') (hdV rg') (hdV pg') (hdV pk'))).toArray rfl _ _ K24.out (by kernel_rfl) rfl (plA_one q ob' rg' pg' pk') ?_))
  refine bodyPost_ret (results_row Tryz.results55 (w.heap.size + 1) rfl _ _ _ _ HN.out Tryz.underlying30 rfl (by kernel_rfl)) rfl ?_
  have hGR := grown_row wk3 (w.heap.size + 1) ((plLSa q (hdV ob') (hdV rg') (hdV pg') (hdV pk'))).toArray
  have hG1 : w.heap.size + 1 < w.heap.size + 2 := by omega
  exact ⟨ob', rg', pg', pk', rfl, ⟨(HO0.out.grown hGR hG1).le (by omega), (HO1.out.grown hGR hG1).le (by omega), (HO2.out.grown hGR hG1).le (by omega), own_base (own_grown HO3.out hGR hG1) (by omega)⟩, below_setRow HB4.out (by omega) _⟩
/-- the lists of a copied state, all in blocks from b on -/
structure CopyR (b : Nat) (w : World) (v : Sv) (q : Sq) : Prop where
  hob : OwnRows 47 3 b w (hdV v.hob) q.ob
  m : w.ownsRow b 25 1 (hdV v.m) q.m.length (q.m.flatMap uc)
  bins : OwnRows 47 3 b w (hdV v.bins) q.bins
  acks : w.ownsRow b 3 1 (hdV v.acks) q.acks.length (q.acks.flatMap ic)
  bl : OwnB b w (hdV v.bl) q.l.bal
  ws : OwnWs b w (hdV v.ws) q.ws
  ms : OwnUs b w (hdV v.ms) q.ms
/-- short enough to be copied -/
structure SmS (q : Sq) : Prop where
  ob : (∀ l ∈ q.ob, l.length * 8 ≤ 140737488351232) ∧ q.ob.length * 24 ≤ 140737488351232
  m : q.m.length * 8 ≤ 140737488351232
  bins : (∀ l ∈ q.bins, l.length * 8 ≤ 140737488351232) ∧ q.bins.length * 24 ≤ 140737488351232
  acks : q.acks.length * 8 ≤ 140737488351232
  bl : q.l.bal.length * 8 ≤ 140737488351232
  ws : (∀ x ∈ q.ws, SmW x) ∧ q.ws.length * 368 ≤ 140737488351232
  ms : (∀ x ∈ q.ms, SmU x) ∧ q.ms.length * 376 ≤ 140737488351232
set_option maxRecDepth 100000 in
set_option maxHeartbeats 4000000 in
theorem Copy_any (q : Sq) (v : Sv) (w : World) (hR : StR w v q) (hS : SmS q) :
    Calls Tryz.prog 25 #[.agg (stL q v).toArray] w fun e w' => ∃ c : Sv, e = .returned (.agg (stL q c).toArray) ∧ (c.ob = v.ob ∧ c.rg = v.rg ∧ c.pg = v.pg ∧ c.pk = v.pk) ∧ CopyR w.heap.size w' c q ∧ Below w.heap.size w w' := by
  obtain ⟨h0, h1, h2, h3, h4, h5, h6, h7⟩ := hR
  obtain ⟨s0, s1, s2, s3, s4, s5, s6⟩ := hS
  clear h0
  obtain ⟨w1, e1, k1, k2, hb1, hs1⟩ := two_box w (stL q v) st0Sa 66 66
  have E1 := hide e1
  have K10 := hide k1
  have K20 := hide k2
  have HB0 := hide hb1
  have hs0 : w.heap.size + 2 ≤ w1.heap.size := by omega
  have R_h1 := hide h1
  have R_h2 := hide h2
  have R_h3 := hide h3
  have R_h4 := hide h4
  have R_h5 := hide h5
  have R_h6 := hide h6
  have R_h7 := hide h7
  clear e1 k1 k2 hb1 h1 h2 h3 h4 h5 h6 h7
  go_enter Tryz.func25, Tryz.ntmps25
  have c14 : w1.cell? ⟨w.heap.size, 14, none⟩ = some (.int .i64 q.sl) := K10.out.cell 14
  have HCL : Hid (∀ (j_ : Nat) v_, [(.int .i64 q.sl), (hdV v.hob)][j_]? = some v_ → w1.cell? ⟨w.heap.size, 14 + j_, none⟩ = some v_) := fun j_ v_ hv => by
    match j_, hv with
    | 0, hv => rw [← hv]; exact K10.out.cell 14
    | 1, hv => rw [← hv]; exact K10.out.cell 15
  go_upto_region 1 with (fail)
  rw [E1.out]
  go_wp2_with (refine wpList_load_seg rfl 24 (.tmp 3) rfl w.heap.size 14 rfl [(.int .i64 q.sl), (hdV v.hob)] _ HCL Tryz.underlying24 rfl (by kernel_rfl) ?_)
  (with_reducible refine (copiedHeap_any q.sl v.hob q.ob _ (R_h1.out.below HB0.out) s0.1 s0.2).mono ?_)
  rintro e w2 ⟨hob', rfl, hown, hb⟩
  have hs1 := Nat.le_trans hs0 hb.size
  have K11 := hide (bc_row (K10.out.below hb) (stL q ⟨v.ob, v.rg, v.pg, v.pk, hob', v.m, v.bins, v.acks, v.bl, v.ws, v.ms⟩))
  have K21 := hide (bc_rowO (K20.out.below hb) (by omega : w.heap.size + 1 ≠ w.heap.size) ((stL q ⟨v.ob, v.rg, v.pg, v.pk, hob', v.m, v.bins, v.acks, v.bl, v.ws, v.ms⟩)).toArray)
  have HB1 := hide (below_setRow (HB0.out.trans (hb.mono HB0.out.size)) (Nat.le_refl _) ((stL q ⟨v.ob, v.rg, v.pg, v.pk, hob', v.m, v.bins, v.acks, v.bl, v.ws, v.ms⟩)).toArray)
  have hGR := grown_row w2 w.heap.size ((stL q ⟨v.ob, v.rg, v.pg, v.pk, hob', v.m, v.bins, v.acks, v.bl, v.ws, v.ms⟩)).toArray
  have HO0 := hide ((hown.le hs0).grown hGR (by omega : w.heap.size < w.heap.size + 2))
  have c14 : w2.cell? ⟨w.heap.size, 14, none⟩ = some (.int .i64 q.sl) := (K10.out.below hb).cell 14
  have f14 := (K10.out.below hb).free 14
  have HKB := hide (K10.out.below hb)
  obtain ⟨wk0, ek⟩ : ∃ W, w2.setRow w.heap.size ((stL q ⟨v.ob, v.rg, v.pg, v.pk, hob', v.m, v.bins, v.acks, v.bl, v.ws, v.ms⟩)).toArray = W := ⟨_, rfl⟩
  have hsk : w2.heap.size = wk0.heap.size := by rw [← ek]; simp
  rw [ek] at K11 K21 HB1 HO0
  rw [hsk] at hs1
  have EK0 := hide ek
  clear hb ek hsk hGR
  clear hown
  have c16 : wk0.cell? ⟨w.heap.size, 16, none⟩ = some (hdV v.m) := K11.out.cell 16
  go_upto_region 2 with (refine wpList_store_bc rfl 24 (.tmp 6) (.tmp 5) rfl w.heap.size 14 rfl [.int .i64 q.sl, hdV hob'] rfl _ _ HKB.out (by kernel_rfl) (Nat.le_of_ble_eq_true rfl) (List.all_eq_true.1 rfl) (stL q ⟨v.ob, v.rg, v.pg, v.pk, hob', v.m, v.bins, v.acks, v.bl, v.ws, v.ms⟩) rfl ?_)
  rw [EK0.out]
  clear c14 f14 HCL HKB
  go_wp2_with fail
  (with_reducible refine (Clone_cells _ q.m _ (R_h2.out.below HB1.out) s1).mono ?_)
  rintro e w3 ⟨v', rfl, hown, hb⟩
  obtain ⟨m', rfl, -⟩ := hd_of (Sl.of_own uc_len hown)
  have hs2 := Nat.le_trans hs1 hb.size
  have K12 := hide (show Bc 66 _ _ (stL q ⟨v.ob, v.rg, v.pg, v.pk, hob', m', v.bins, v.acks, v.bl, v.ws, v.ms⟩) from (K11.out.below hb).set 16 (hdV m'))
  have K22 := hide (bc_other (K21.out.below hb) (by omega : w.heap.size + 1 ≠ w.heap.size) 16 (hdV m'))
  have HB2 := hide ((HB1.out.trans (hb.mono HB1.out.size)).setCell (p := ⟨w.heap.size, 16, none⟩) (Nat.le_refl _) (hdV m'))
  have hGR := grown_setSa w3 w.heap.size 16 (hdV m')
  have HO0 := hide (((HO0.out).below hb).grown hGR (by omega : w.heap.size < w.heap.size + 2))
  have HO1 := hide (own_grown (own_base hown hs1) hGR (by omega : w.heap.size < w.heap.size + 2))
  have c16 : w3.cell? ⟨w.heap.size, 16, none⟩ = some (hdV v.m) := (K11.out.below hb).cell 16
  have f16 := (K11.out.below hb).free 16
  obtain ⟨wk1, ek⟩ : ∃ W, w3.setCell ⟨w.heap.size, 16, none⟩ (hdV m') = W := ⟨_, rfl⟩
  have hsk : w3.heap.size = wk1.heap.size := by rw [← ek]; simp [World.setCell]
  rw [ek] at K12 K22 HB2 HO0 HO1
  rw [hsk] at hs2
  have EK1 := hide ek
  clear hb ek hsk hGR
  clear hown
  have c17 : wk1.cell? ⟨w.heap.size, 17, none⟩ = some (hdV v.bins) := K12.out.cell 17
  go_upto_region 3 with (fail)
  rw [EK1.out]
  clear c16 f16
  go_wp2_with fail
  (with_reducible refine (rows_any _ q.bins _ (R_h3.out.below HB2.out) s2.1 s2.2).mono ?_)
  rintro e w4 ⟨bins', rfl, hown, hb⟩
  have hs3 := Nat.le_trans hs2 hb.size
  have K13 := hide (show Bc 66 _ _ (stL q ⟨v.ob, v.rg, v.pg, v.pk, hob', m', bins', v.acks, v.bl, v.ws, v.ms⟩) from (K12.out.below hb).set 17 (hdV bins'))
  have K23 := hide (bc_other (K22.out.below hb) (by omega : w.heap.size + 1 ≠ w.heap.size) 17 (hdV bins'))
  have HB3 := hide ((HB2.out.trans (hb.mono HB2.out.size)).setCell (p := ⟨w.heap.size, 17, none⟩) (Nat.le_refl _) (hdV bins'))
  have hGR := grown_setSa w4 w.heap.size 17 (hdV bins')
  have HO0 := hide (((HO0.out).below hb).grown hGR (by omega : w.heap.size < w.heap.size + 2))
  have HO1 := hide (own_grown (own_below HO1.out hb) hGR (by omega : w.heap.size < w.heap.size + 2))
  have HO2 := hide ((hown.le hs2).grown hGR (by omega : w.heap.size < w.heap.size + 2))
  have c17 : w4.cell? ⟨w.heap.size, 17, none⟩ = some (hdV v.bins) := (K12.out.below hb).cell 17
  have f17 := (K12.out.below hb).free 17
  obtain ⟨wk2, ek⟩ : ∃ W, w4.setCell ⟨w.heap.size, 17, none⟩ (hdV bins') = W := ⟨_, rfl⟩
  have hsk : w4.heap.size = wk2.heap.size := by rw [← ek]; simp [World.setCell]
  rw [ek] at K13 K23 HB3 HO0 HO1 HO2
  rw [hsk] at hs3
  have EK2 := hide ek
  clear hb ek hsk hGR
  clear hown
  have c25 : wk2.cell? ⟨w.heap.size, 25, none⟩ = some (hdV v.acks) := K13.out.cell 25
  go_upto_region 4 with (fail)
  rw [EK2.out]
  clear c17 f17
  go_wp2_with fail
  (with_reducible refine (Clone_ints _ q.acks _ (R_h4.out.below HB3.out) s3).mono ?_)
  rintro e w5 ⟨v', rfl, hown, hb⟩
  obtain ⟨acks', rfl, -⟩ := hd_of (Sl.of_own ic_len hown)
  have hs4 := Nat.le_trans hs3 hb.size
  have K14 := hide (show Bc 66 _ _ (stL q ⟨v.ob, v.rg, v.pg, v.pk, hob', m', bins', acks', v.bl, v.ws, v.ms⟩) from (K13.out.below hb).set 25 (hdV acks'))
  have K24 := hide (bc_other (K23.out.below hb) (by omega : w.heap.size + 1 ≠ w.heap.size) 25 (hdV acks'))
  have HB4 := hide ((HB3.out.trans (hb.mono HB3.out.size)).setCell (p := ⟨w.heap.size, 25, none⟩) (Nat.le_refl _) (hdV acks'))
  have hGR := grown_setSa w5 w.heap.size 25 (hdV acks')
  have HO0 := hide (((HO0.out).below hb).grown hGR (by omega : w.heap.size < w.heap.size + 2))
  have HO1 := hide (own_grown (own_below HO1.out hb) hGR (by omega : w.heap.size < w.heap.size + 2))
  have HO2 := hide (((HO2.out).below hb).grown hGR (by omega : w.heap.size < w.heap.size + 2))
  have HO3 := hide (own_grown (own_base hown hs3) hGR (by omega : w.heap.size < w.heap.size + 2))
  have c25 : w5.cell? ⟨w.heap.size, 25, none⟩ = some (hdV v.acks) := (K13.out.below hb).cell 25
  have f25 := (K13.out.below hb).free 25
  obtain ⟨wk3, ek⟩ : ∃ W, w5.setCell ⟨w.heap.size, 25, none⟩ (hdV acks') = W := ⟨_, rfl⟩
  have hsk : w5.heap.size = wk3.heap.size := by rw [← ek]; simp [World.setCell]
  rw [ek] at K14 K24 HB4 HO0 HO1 HO2 HO3
  rw [hsk] at hs4
  have EK3 := hide ek
  clear hb ek hsk hGR
  clear hown
  have c29 : wk3.cell? ⟨w.heap.size, 29, none⟩ = some (hdV v.bl) := K14.out.cell 29
  go_upto_region 5 with (fail)
  rw [EK3.out]
  clear c25 f25
  go_wp2_with fail
  (with_reducible refine (Clone_any _ q.l.bal _ (R_h5.out.below HB4.out) s4).mono ?_)
  rintro e w6 ⟨v', rfl, hown, hb⟩
  obtain ⟨bl', rfl, -⟩ := hd_of (Sl.of_own ic_len hown)
  have hs5 := Nat.le_trans hs4 hb.size
  have K15 := hide (show Bc 66 _ _ (stL q ⟨v.ob, v.rg, v.pg, v.pk, hob', m', bins', acks', bl', v.ws, v.ms⟩) from (K14.out.below hb).set 29 (hdV bl'))
  have K25 := hide (bc_other (K24.out.below hb) (by omega : w.heap.size + 1 ≠ w.heap.size) 29 (hdV bl'))
  have HB5 := hide ((HB4.out.trans (hb.mono HB4.out.size)).setCell (p := ⟨w.heap.size, 29, none⟩) (Nat.le_refl _) (hdV bl'))
  have hGR := grown_setSa w6 w.heap.size 29 (hdV bl')
  have HO0 := hide (((HO0.out).below hb).grown hGR (by omega : w.heap.size < w.heap.size + 2))
  have HO1 := hide (own_grown (own_below HO1.out hb) hGR (by omega : w.heap.size < w.heap.size + 2))
  have HO2 := hide (((HO2.out).below hb).grown hGR (by omega : w.heap.size < w.heap.size + 2))
  have HO3 := hide (own_grown (own_below HO3.out hb) hGR (by omega : w.heap.size < w.heap.size + 2))
  have HO4 := hide (own_grown (own_base hown hs4) hGR (by omega : w.heap.size < w.heap.size + 2))
  have c29 : w6.cell? ⟨w.heap.size, 29, none⟩ = some (hdV v.bl) := (K14.out.below hb).cell 29
  have f29 := (K14.out.below hb).free 29
  obtain ⟨wk4, ek⟩ : ∃ W, w6.setCell ⟨w.heap.size, 29, none⟩ (hdV bl') = W := ⟨_, rfl⟩
  have hsk : w6.heap.size = wk4.heap.size := by rw [← ek]; simp [World.setCell]
  rw [ek] at K15 K25 HB5 HO0 HO1 HO2 HO3 HO4
  rw [hsk] at hs5
  have EK4 := hide ek
  clear hb ek hsk hGR
  clear hown
  have c30 : wk4.cell? ⟨w.heap.size, 30, none⟩ = some (hdV v.ws) := K15.out.cell 30
  go_upto_region 6 with (fail)
  rw [EK4.out]
  clear c29 f29
  go_wp2_with fail
  (with_reducible refine (own_wks _ q.ws _ (R_h6.out.below HB5.out) s5.1 s5.2).mono ?_)
  rintro e w7 ⟨ws', rfl, hown, hb⟩
  have hs6 := Nat.le_trans hs5 hb.size
  have K16 := hide (show Bc 66 _ _ (stL q ⟨v.ob, v.rg, v.pg, v.pk, hob', m', bins', acks', bl', ws', v.ms⟩) from (K15.out.below hb).set 30 (hdV ws'))
  have K26 := hide (bc_other (K25.out.below hb) (by omega : w.heap.size + 1 ≠ w.heap.size) 30 (hdV ws'))
  have HB6 := hide ((HB5.out.trans (hb.mono HB5.out.size)).setCell (p := ⟨w.heap.size, 30, none⟩) (Nat.le_refl _) (hdV ws'))
  have hGR := grown_setSa w7 w.heap.size 30 (hdV ws')
  have HO0 := hide (((HO0.out).below hb).grown hGR (by omega : w.heap.size < w.heap.size + 2))
  have HO1 := hide (own_grown (own_below HO1.out hb) hGR (by omega : w.heap.size < w.heap.size + 2))
  have HO2 := hide (((HO2.out).below hb).grown hGR (by omega : w.heap.size < w.heap.size + 2))
  have HO3 := hide (own_grown (own_below HO3.out hb) hGR (by omega : w.heap.size < w.heap.size + 2))
  have HO4 := hide (own_grown (own_below HO4.out hb) hGR (by omega : w.heap.size < w.heap.size + 2))
  have HO5 := hide ((hown.le hs5).grown hGR (by omega : w.heap.size < w.heap.size + 2))
  have c30 : w7.cell? ⟨w.heap.size, 30, none⟩ = some (hdV v.ws) := (K15.out.below hb).cell 30
  have f30 := (K15.out.below hb).free 30
  obtain ⟨wk5, ek⟩ : ∃ W, w7.setCell ⟨w.heap.size, 30, none⟩ (hdV ws') = W := ⟨_, rfl⟩
  have hsk : w7.heap.size = wk5.heap.size := by rw [← ek]; simp [World.setCell]
  rw [ek] at K16 K26 HB6 HO0 HO1 HO2 HO3 HO4 HO5
  rw [hsk] at hs6
  have EK5 := hide ek
  clear hb ek hsk hGR
  clear hown
  have c31 : wk5.cell? ⟨w.heap.size, 31, none⟩ = some (hdV v.ms) := K16.out.cell 31
  go_upto_region 7 with (fail)
  rw [EK5.out]
  clear c30 f30
  go_wp2_with fail
  (with_reducible refine (own_uts _ q.ms _ (R_h7.out.below HB6.out) s6.1 s6.2).mono ?_)
  rintro e w8 ⟨ms', rfl, hown, hb⟩
  have hs7 := Nat.le_trans hs6 hb.size
  have K17 := hide (show Bc 66 _ _ (stL q ⟨v.ob, v.rg, v.pg, v.pk, hob', m', bins', acks', bl', ws', ms'⟩) from (K16.out.below hb).set 31 (hdV ms'))
  have K27 := hide (bc_other (K26.out.below hb) (by omega : w.heap.size + 1 ≠ w.heap.size) 31 (hdV ms'))
  have HB7 := hide ((HB6.out.trans (hb.mono HB6.out.size)).setCell (p := ⟨w.heap.size, 31, none⟩) (Nat.le_refl _) (hdV ms'))
  have hGR := grown_setSa w8 w.heap.size 31 (hdV ms')
  have HO0 := hide (((HO0.out).below hb).grown hGR (by omega : w.heap.size < w.heap.size + 2))
  have HO1 := hide (own_grown (own_below HO1.out hb) hGR (by omega : w.heap.size < w.heap.size + 2))
  have HO2 := hide (((HO2.out).below hb).grown hGR (by omega : w.heap.size < w.heap.size + 2))
  have HO3 := hide (own_grown (own_below HO3.out hb) hGR (by omega : w.heap.size < w.heap.size + 2))
  have HO4 := hide (own_grown (own_below HO4.out hb) hGR (by omega : w.heap.size < w.heap.size + 2))
  have HO5 := hide (((HO5.out).below hb).grown hGR (by omega : w.heap.size < w.heap.size + 2))
  have HO6 := hide ((hown.le hs6).grown hGR (by omega : w.heap.size < w.heap.size + 2))
  have c31 : w8.cell? ⟨w.heap.size, 31, none⟩ = some (hdV v.ms) := (K16.out.below hb).cell 31
  have f31 := (K16.out.below hb).free 31
  obtain ⟨wk6, ek⟩ : ∃ W, w8.setCell ⟨w.heap.size, 31, none⟩ (hdV ms') = W := ⟨_, rfl⟩
  have hsk : w8.heap.size = wk6.heap.size := by rw [← ek]; simp [World.setCell]
  rw [ek] at K17 K27 HB7 HO0 HO1 HO2 HO3 HO4 HO5 HO6
  rw [hsk] at hs7
  have EK6 := hide ek
  clear hb ek hsk hGR
  clear hown
  have HN := hide (setRow_heap _ _ _ ((stL q ⟨v.ob, v.rg, v.pg, v.pk, hob', m', bins', acks', bl', ws', ms'⟩)).toArray _ _ K27.out)
  go_upto_region 8 with (fail)
  rw [EK6.out]
  clear c31 f31
  go_wp2_with (first
    | (refine wpList_load_row rfl 66 (.tmp 1) rfl w.heap.size rfl ((stL q ⟨v.ob, v.rg, v.pg, v.pk, hob', m', bins', acks', bl', ws', ms'⟩)).toArray _ _ _ K17.out Tryz.underlying66 rfl (by kernel_rfl) ?_)
    | (refine wpList_store_row rfl 66 (.tmp 2) (.tmp 33) rfl (w.heap.size + 1) rfl ((stL q ⟨v.ob, v.rg, v.pg, v.pk, hob', m', bins', acks', bl', ws', ms'⟩)).toArray rfl _ _ K27.out (by kernel_rfl) rfl (stA_one q _) ?_))
  refine bodyPost_ret (results_row Tryz.results25 (w.heap.size + 1) rfl _ _ _ _ HN.out Tryz.underlying66 rfl (by kernel_rfl)) rfl ?_
  have hGR := grown_row wk6 (w.heap.size + 1) ((stL q ⟨v.ob, v.rg, v.pg, v.pk, hob', m', bins', acks', bl', ws', ms'⟩)).toArray
  have hG1 : w.heap.size + 1 < w.heap.size + 2 := by omega
  refine ⟨_, rfl, ⟨rfl, rfl, rfl, rfl⟩, ⟨(HO0.out.grown hGR hG1).le (by omega), own_base (own_grown HO1.out hGR hG1) (by omega), (HO2.out.grown hGR hG1).le (by omega), own_base (own_grown HO3.out hGR hG1) (by omega), own_base (own_grown HO4.out hGR hG1) (by omega), (HO5.out.grown hGR hG1).le (by omega), (HO6.out.grown hGR hG1).le (by omega)⟩, below_setRow HB7.out (by omega) _⟩
end Go.Proofs.YtdmbcjckgfjcaaaGreatDoor
/- Layer state: where the cells are; from. Written by tools/genstatea.py. -/
namespace Go.Proofs.YtdmbcjckgfjcaaaGreatDoor
open Go.RowKit Go.Joins
theorem s64_w (x : Int) : wrap64 x = s64 x := by
  unfold s64 wrap64
  omega
theorem plan_box (w : World) (q : Pq) (ob rg pg pk : Hd) : ∃ w1, w.alloc (.cells (plLSa q (hdV ob) (hdV rg) (hdV pg) (hdV pk)).toArray 30) = w1 ∧ Bc 30 w1 w.heap.size (plLSa q (hdV ob) (hdV rg) (hdV pg) (hdV pk)) ∧ Below w.heap.size w w1 ∧ w1.heap.size = w.heap.size + 1 :=
  ⟨_, rfl, bc_new w _ _, balS w _, by simp⟩
theorem Deque_r (q : Pq) (ob rg pg pk : Hd) (x : Int) (w : World) (r : Int) (hr : dequeF q.cp x = r) :
    Calls Tryz.prog 15 #[.agg (plLSa q (hdV ob) (hdV rg) (hdV pg) (hdV pk)).toArray, .int .i64 x] w fun e w' => e = .returned (.int .i64 r) ∧ Below w.heap.size w w' := by
  subst hr
  obtain ⟨w1, e1, k1, hb1, -⟩ := plan_box w q ob rg pg pk
  have c2 : w1.cell? ⟨w.heap.size, 2, none⟩ = some (.int .i64 q.cp) := k1.cell 2
  have E1 := hide e1
  have HB := hide hb1
  clear e1 k1 hb1
  go_enter Tryz.func15, Tryz.ntmps15
  go_upto_region 1 with (fail)
  rw [E1.out]
  go_wp2
  go_ret
  exact ⟨ret_int (by unfold dequeF; simp only [s64_w]), HB.out⟩
theorem Full_r (q : Pq) (ob rg pg pk : Hd) (w : World) (r : Int) (hr : fullF q.cp q.wk = r) :
    Calls Tryz.prog 17 #[.agg (plLSa q (hdV ob) (hdV rg) (hdV pg) (hdV pk)).toArray] w fun e w' => e = .returned (.int .i64 r) ∧ Below w.heap.size w w' := by
  subst hr
  obtain ⟨w1, e1, k1, hb1, -⟩ := plan_box w q ob rg pg pk
  have E1 := hide e1
  have HB := hide hb1
  have K1 := hide k1
  have c0 : w1.cell? ⟨w.heap.size, 0, none⟩ = some (.int .i64 q.wk) := k1.cell 0
  clear e1 k1 hb1
  have e2 : wrap64 (q.wk + 1) = s64 (q.wk + 1) := s64_w _
  have E2 := hide e2
  clear e2
  go_enter Tryz.func17, Tryz.ntmps17
  go_upto_region 1 with (fail)
  rw [E1.out]
  go_wp2_with (refine wpList_load_row rfl 30 (.tmp 1) rfl w.heap.size rfl (plLSa q (hdV ob) (hdV rg) (hdV pg) (hdV pk)).toArray _ _ _ K1.out Tryz.underlying30 rfl (by kernel_rfl) ?_)
  (with_reducible refine (Deque_r q ob rg pg pk _ _ _ rfl).mono ?_)
  rintro e w2 ⟨rfl, hb2⟩
  have HB2 := hide (bcall HB.out hb2)
  clear hb2
  go_wp2
  go_ret
  exact ⟨ret_int (by unfold fullF; simp only [s64_w]), HB2.out⟩
theorem Empty_r (q : Pq) (ob rg pg pk : Hd) (w : World) (r : Int) (hr : emptyF q.cp q.wk = r) :
    Calls Tryz.prog 19 #[.agg (plLSa q (hdV ob) (hdV rg) (hdV pg) (hdV pk)).toArray] w fun e w' => e = .returned (.int .i64 r) ∧ Below w.heap.size w w' := by
  subst hr
  obtain ⟨w1, e1, k1, hb1, -⟩ := plan_box w q ob rg pg pk
  have E1 := hide e1
  have HB := hide hb1
  have K1 := hide k1
  clear e1 k1 hb1
  go_enter Tryz.func19, Tryz.ntmps19
  go_upto_region 1 with (fail)
  rw [E1.out]
  go_wp2_with (refine wpList_load_row rfl 30 (.tmp 1) rfl w.heap.size rfl (plLSa q (hdV ob) (hdV rg) (hdV pg) (hdV pk)).toArray _ _ _ K1.out Tryz.underlying30 rfl (by kernel_rfl) ?_)
  (with_reducible refine (Full_r q ob rg pg pk _ _ rfl).mono ?_)
  rintro e w2 ⟨rfl, hb2⟩
  have HB2 := hide (bcall HB.out hb2)
  clear hb2
  go_wp2
  go_ret
  exact ⟨ret_int (by unfold emptyF; simp only [s64_w]), HB2.out⟩
theorem Next_r (q : Pq) (ob rg pg pk : Hd) (w : World) (r : Int) (hr : emptyF q.cp q.wk = r) :
    Calls Tryz.prog 21 #[.agg (plLSa q (hdV ob) (hdV rg) (hdV pg) (hdV pk)).toArray] w fun e w' => e = .returned (.int .i64 r) ∧ Below w.heap.size w w' := by
  subst hr
  obtain ⟨w1, e1, k1, hb1, -⟩ := plan_box w q ob rg pg pk
  have E1 := hide e1
  have HB := hide hb1
  have K1 := hide k1
  clear e1 k1 hb1
  go_enter Tryz.func21, Tryz.ntmps21
  go_upto_region 1 with (fail)
  rw [E1.out]
  go_wp2_with (refine wpList_load_row rfl 30 (.tmp 1) rfl w.heap.size rfl (plLSa q (hdV ob) (hdV rg) (hdV pg) (hdV pk)).toArray _ _ _ K1.out Tryz.underlying30 rfl (by kernel_rfl) ?_)
  (with_reducible refine (Empty_r q ob rg pg pk _ _ rfl).mono ?_)
  rintro e w2 ⟨rfl, hb2⟩
  have HB2 := hide (bcall HB.out hb2)
  clear hb2
  go_wp2
  go_ret
  exact ⟨rfl, HB2.out⟩
/-- the numbers from s + 1 on, n of them, as ints -/
def binsI (s n : Nat) : List Int := (binsN s n).map fun (x : Nat) => (x : Int)
theorem binsI_len (s n : Nat) : (binsI s n).length = n := by unfold binsI binsN; rw [List.length_map, List.length_range']
theorem binsI_snoc (s n : Nat) : binsI s (n + 1) = binsI s n ++ [((s + n + 1 : Nat) : Int)] := by unfold binsI; rw [binsN_snoc, List.map_append]; rfl
set_option maxRecDepth 100000 in
set_option maxHeartbeats 1000000 in
theorem from_any (s n : Nat) (x y : Int) (hx : x = ((s + 1 : Nat) : Int)) (hy : y = ((s + n : Nat) : Int)) (hs : s + n ≤ 1000000) (w : World) :
    Calls Tryz.prog 115 #[.int .i64 x, .int .i64 y] w fun e w' => ∃ v : Hd, e = .returned (hdV v) ∧ w'.ownsRow w.heap.size 3 1 (hdV v) n ((binsI s n).flatMap ic) ∧ Below w.heap.size w w' := by
  obtain ⟨i0, hi, hz0, hz1, hz2⟩ := info_parts infoInt
  have HX := hide hx
  have HY := hide hy
  clear hx hy
  go_enter Tryz.func115, Tryz.ntmps115
  go_wp2
  go_loopw [5, 6] (fun vs i wr => ∃ k : Nat, k ≤ n ∧ i = .int .i64 (x + (k : Int)) ∧ Hid (wr.ownsRow w.heap.size 3 1 vs k ((binsI s k).flatMap ic)) ∧ Below w.heap.size w wr) (fun _ i _ => s + n + 1 - (Go.RowKit.intOf i).toNat)
  case atStart => exact ⟨0, Nat.zero_le _, by simp, hide (World.ownsRow_nil _ _ _ _), Below.refl _ _⟩
  case round =>
    obtain ⟨k, hk, rfl, HO, hb⟩ := hrel
    have hsz := hb.size
    by_cases hlt : k < n
    · have h1 : x + (k : Int) ≤ y := by have := HX.out; have := HY.out; omega
      have e1 : wrap64 (x + (k : Int) + 1) = x + (k : Int) + 1 := by have := HX.out; rw [s64_w, s64_small (by omega) (by omega)]
      have E1 := hide e1
      obtain ⟨z, hz⟩ : ∃ z : Int, x + (k : Int) = z := ⟨_, rfl⟩
      rw [hz] at h1 e1 ⊢
      have HZ := hide hz
      clear hz
      go_wp2_with (at_builtin; refine wpList_append_own _ rfl _ _ 47 rfl w.heap.size 3 i0 (.int .i64 0) 1 8 Tryz.underlying47 hi hz0 hz1 hz2 rfl (by decide) _ _ _ rfl (HO.out.alloc _) ⟨_, 0, none⟩ 1 1 [.int .i64 z] rfl rfl (row_at _ _ _ (by simp)) (by simp [Value.oneCell']) (by simp only [maxLen]; omega) (by omega) (by simp; omega) ?_; intro v' w3 hown' hgrow _)
      go_roundw
      case rel =>
        refine ⟨k + 1, by omega, ?_, hide ?_, (hb.alloc hsz _).grown hgrow (by simp; omega) (own_ge HO.out)⟩
        · have := HZ.out
          congr 1
          omega
        · rw [binsI_snoc, List.flatMap_append, show ((s + k + 1 : Nat) : Int) = z by have := HX.out; have := HZ.out; omega]; exact hown'
      case measure => have := HX.out; have := HZ.out; simp [Go.RowKit.intOf]; omega
    · have hkk : k = n := by omega
      subst hkk
      have h2 : y < x + (k : Int) := by have := HX.out; have := HY.out; omega
      obtain ⟨z, hz⟩ : ∃ z : Int, x + (k : Int) = z := ⟨_, rfl⟩
      rw [hz] at h2 ⊢
      clear hz
      go_wp2
      obtain ⟨A, c, rfl, -⟩ := own_form HO.out
      go_ret
      exact ⟨(A, k, c), rfl, HO.out, hb⟩
end Go.Proofs.YtdmbcjckgfjcaaaGreatDoor
/- Layer state: what holds while the bins are filled. -/
namespace Go.Proofs.YtdmbcjckgfjcaaaGreatDoor
open Go.RowKit Go.Joins
theorem not_row {W : World} {b : Nat} {cs : Array Value} {t : TypeId} {fr : Nat × Nat} {row : Option Nat} (h : W.heap[b]? = some (.cells cs t fr)) (hr : ∀ r, row = some r → ∃ o : Obj, W.heap[r]? = some o ∧ o.isCells = false) : some b ≠ row := fun e => by
  obtain ⟨o, h1, h2⟩ := hr b e.symm
  rw [h] at h1; cases h1; cases h2
theorem own_kept {W W' : World} {row : Option Nat} {base n size : Nat} {e : TypeId} {v : Value} {xs : List Value} (h : W.ownsRow base e size v n xs) (hg : W.grownBy W' row) (hr : ∀ r, row = some r → ∃ o : Obj, W.heap[r]? = some o ∧ o.isCells = false) : W'.ownsRow base e size v n xs := by
  refine ⟨h.1, ?_⟩
  rcases h.2 with h0 | ⟨g, cap, cur, hv, hb, hh, hx⟩
  · exact .inl h0
  · exact .inr ⟨g, cap, cur, hv, hb, (hg.block g (Array.getElem?_eq_some_iff.1 hh).1 (not_row hh hr)).trans hh, hx⟩
/-- L has been laid so far: bins in B8, how many in B9, their top row in G; the rows are no older than N0 -/
structure FillI (w : World) (G B8 B9 nb N0 : Nat) (L : List (List Int)) (W : World) : Prop where
  n1 : w.heap.size ≤ G ∧ w.heap.size ≤ B8 ∧ w.heap.size ≤ B9
  lt : G < N0 ∧ B8 < N0 ∧ B9 < N0
  ne : G ≠ B8 ∧ G ≠ B9 ∧ B8 ≠ B9
  le : N0 ≤ W.heap.size
  c8 : Bc 22 W B8 [.slice (some ⟨G, 0, none⟩) (nb + 1) (nb + 1)]
  c9 : Bc 3 W B9 [.int .i64 (L.length : Int)]
  top : ∃ es : List Value, es.length = nb + 1 ∧ W.ownsRow w.heap.size 47 1 (.slice (some ⟨G, 0, none⟩) (nb + 1) (nb + 1)) (nb + 1) (es.flatMap one) ∧ (∀ (i : Nat) u, L.length < i → es[i]? = some u → u = .slice none 0 0) ∧ es[0]? = some (.slice none 0 0) ∧
    ∀ (i : Nat) u l, es[i + 1]? = some u → L[i]? = some l → RI N0 W u l
  bw : Below w.heap.size w W
section
variable {w W w4 Y : World} {G B8 B9 nb N0 B : Nat} {L : List (List Int)}
theorem FillI.own (hB : w.heap.size ≤ B) {α : Type} {f : List α → List (List Int)} : OwnFrom B (fun (s : List α) W => FillI w G B8 B9 nb N0 (f s) W) := by
  intro s W W' row h hg hr
  have hr2 : ∀ r, row = some r → ∃ o : Obj, W.heap[r]? = some o ∧ o.isCells = false := fun r e => (hr r e).2
  obtain ⟨es, h1, h2, h3, h4, h5⟩ := h.top
  refine ⟨h.n1, h.lt, h.ne, Nat.le_trans h.le hg.size, ?_, ?_, ⟨es, h1, own_kept h2 hg hr2, h3, h4, fun i u l hu hl => own_kept (h5 i u l hu hl) hg hr2⟩, h.bw.grown hg h.bw.size (fun r e => Nat.le_trans hB (hr r e).1)⟩
  · exact (hg.block B8 h.c8.lt (not_row h.c8 hr2)).trans h.c8
  · exact (hg.block B9 h.c9.lt (not_row h.c9 hr2)).trans h.c9
/-- behind 'b++' -/
structure FillY (w : World) (G B8 B9 nb N0 : Nat) (L : List (List Int)) (W Y : World) : Prop where
  fi : FillI w G B8 B9 nb N0 L W
  size : Y.heap.size = W.heap.size
  c8 : Bc 22 Y B8 [.slice (some ⟨G, 0, none⟩) (nb + 1) (nb + 1)]
  c9 : Bc 3 Y B9 [.int .i64 ((L.length : Int) + 1)]
  bl : ∀ b, b ≠ B9 → Y.heap[b]? = W.heap[b]?
  bw : Below B9 W Y
theorem FillI.y (h : FillI w G B8 B9 nb N0 L W) : FillY w G B8 B9 nb N0 L W (W.setCell ⟨B9, 0, none⟩ (.int .i64 ((L.length : Int) + 1))).drew :=
  ⟨h, by simp [World.setCell], bc_other h.c8 h.ne.2.2 0 _, h.c9.set 0 _, fun b hb => Below.heap_setCell W ⟨B9, 0, none⟩ _ b hb,
    have hb := (Below.refl B9 W).setCell (p := ⟨B9, 0, none⟩) (Nat.le_refl _) (.int .i64 ((L.length : Int) + 1))
    ⟨hb.os, hb.tape, hb.output, hb.size, hb.block⟩⟩
theorem own_blk {w W : World} {base n size : Nat} {e : TypeId} {v : Value} {xs : List Value} (h : w.ownsRow base e size v n xs) (hk : ∀ b, v.ownBlock = some b → W.heap[b]? = w.heap[b]?) : W.ownsRow base e size v n xs := by
  refine ⟨h.1, ?_⟩
  rcases h.2 with h0 | ⟨g, cap, cur, hv, hb, hh, hx⟩
  · exact .inl h0
  · exact .inr ⟨g, cap, cur, hv, hb, (hk g (by rw [hv]; rfl)).trans hh, hx⟩
/-- the next bin is laid -/
theorem FillY.next (h : FillY w G B8 B9 nb N0 L W Y) (hp : L.length < nb) (hb4 : Below Y.heap.size Y w4) {u : Hd} {l : List Int} (ho : w4.ownsRow Y.heap.size 3 1 (hdV u) l.length (l.flatMap ic)) :
    w4.cell? ⟨B8, 0, none⟩ = some (.slice (some ⟨G, 0, none⟩) (nb + 1) (nb + 1)) ∧ w4.cell? ⟨B9, 0, none⟩ = some (.int .i64 ((L.length : Int) + 1)) ∧ (∃ v, w4.cell? ⟨G, L.length + 1, none⟩ = some v) ∧ w4.frozen? ⟨G, L.length + 1, none⟩ = false ∧
    FillI w G B8 B9 nb N0 (L ++ [l]) (w4.setCell ⟨G, L.length + 1, none⟩ (hdV u)) ∧ KeepsOthers W (w4.setCell ⟨G, L.length + 1, none⟩ (hdV u)) ∧ Below w.heap.size W (w4.setCell ⟨G, L.length + 1, none⟩ (hdV u)) ∧ ∀ b, b < W.heap.size → b ≠ G → b ≠ B9 → (w4.setCell ⟨G, L.length + 1, none⟩ (hdV u)).heap[b]? = W.heap[b]? := by
  have hf := h.fi
  have hsz := h.size
  have hle := hf.le
  obtain ⟨hG, h8, h9⟩ := hf.lt
  obtain ⟨nG, n8, n9⟩ := hf.n1
  obtain ⟨ne1, ne2, ne3⟩ := hf.ne
  obtain ⟨es, e1, e2, e3, e4, e5⟩ := hf.top
  have k8 := h.c8.below hb4
  have k9 := h.c9.below hb4
  have eY : Y.ownsRow w.heap.size 47 1 (.slice (some ⟨G, 0, none⟩) (nb + 1) (nb + 1)) (nb + 1) (es.flatMap one) := own_blk e2 (fun b hb => by cases hb; exact h.bl G ne2)
  have e24 := own_below eY hb4
  have hx : es[L.length + 1]? = some (es[L.length + 1]'(by omega)) := List.getElem?_eq_getElem _
  have hc := own_cell1 e24 hx
  obtain ⟨hp1, hp2⟩ := own_put1 e24 (L.length + 1) (hdV u)
  have hRI : ∀ (i : Nat) u' l', es[i + 1]? = some u' → L[i]? = some l' → RI N0 w4 u' l' := fun i u' l' hu hl => own_below (own_blk (e5 i u' l' hu hl) (fun b hb => h.bl b (by have := (World.ownsRow.lt (e5 i u' l' hu hl) b hb).1; omega))) hb4
  refine ⟨k8.cell 0, k9.cell 0, ⟨_, hc.1⟩, hc.2, ⟨hf.n1, hf.lt, hf.ne, ?_, bc_other k8 (fun e => ne1 e.symm) _ _, ?_, ⟨es.set (L.length + 1) (hdV u), by rw [List.length_set]; exact e1, hp1, fun i u' hi hu => ?_, ?_, fun i u' l' hu hl => ?_⟩, ?_⟩, ?_, ?_, fun b hb hbG hb9 => (Below.heap_setCell w4 ⟨G, L.length + 1, none⟩ (hdV u) b hbG).trans ((hb4.block b (by omega)).trans (h.bl b hb9))⟩
  · have := hb4.size; simp [World.setCell]; omega
  · have := bc_other k9 (fun e => ne2 e.symm) (C := G) (L.length + 1) (hdV u)
    rw [List.length_append, List.length_singleton]
    exact this
  · rw [List.length_append, List.length_singleton] at hi
    rw [List.getElem?_set_ne (by omega)] at hu
    exact e3 i u' (by omega) hu
  · rw [List.getElem?_set_ne (by omega)]; exact e4
  · by_cases hi : i = L.length
    · subst hi
      rw [List.getElem?_set_self (by omega)] at hu
      rw [List.getElem?_concat_length] at hl
      cases hu; cases hl
      exact own_grown (own_base ho (by omega)) hp2 hG
    · rw [List.getElem?_set_ne (by omega)] at hu
      have hil : i < L.length := by have := (List.getElem?_eq_some_iff.1 hl).1; rw [List.length_append, List.length_singleton] at this; omega
      rw [List.getElem?_append_left hil] at hl
      exact own_grown (hRI i u' l' hu hl) hp2 hG
  · have h1 : Below w.heap.size w Y := hf.bw.trans (h.bw.mono n9)
    exact ((h1.trans (hb4.mono h1.size)).setCell (p := ⟨G, L.length + 1, none⟩) nG _)
  · refine ⟨by have := hb4.size; simp [World.setCell]; omega, fun k o hk ho' => ?_⟩
    have hkl : k < W.heap.size := (Array.getElem?_eq_some_iff.1 hk).1
    have hk9 : k ≠ B9 := fun e => by subst e; rw [hf.c9] at hk; cases hk; cases ho'
    have hkG : k ≠ G := fun e => by
      subst e
      rcases e2.2 with ⟨h0, _⟩ | ⟨g, cap, cur, hv, hb, hh, _⟩
      · cases h0
      · injection hv with hv; injection hv with hv; injection hv with hv; subst hv
        rw [hh] at hk; cases hk; cases ho'
    exact (Below.heap_setCell w4 ⟨G, L.length + 1, none⟩ (hdV u) k hkG).trans ((hb4.block k (by omega)).trans ((h.bl k hk9).trans hk))
  · exact ((h.bw.mono n9).trans (hb4.mono (by have := hf.bw.size; omega))).setCell (p := ⟨G, L.length + 1, none⟩) nG _
end
/-- the bins in the end -/
theorem FillI.rows {w W : World} {G B8 B9 nb N0 k : Nat} {g : List Int} (hk : 0 < k) (_hf : fullN k g.length ≤ nb) (hN : w.heap.size ≤ N0) (h : FillI w G B8 B9 nb N0 (chunk k (fullN k g.length) g) W) : OwnRows 47 3 w.heap.size W (.slice (some ⟨G, 0, none⟩) (nb + 1) (nb + 1)) ([] :: chunk k nb g) := by
  obtain ⟨es, e1, e2, e3, e4, e5⟩ := h.top
  rw [chunk_len] at e3
  refine ⟨es, by rw [e1]; rw [flat_one] at e2; exact e2, by rw [e1, List.length_cons, chunk_len], fun i u l hu hl => ?_⟩
  cases i with
  | zero =>
    rw [e4] at hu; cases hu
    rw [List.getElem?_cons_zero] at hl; cases hl
    exact World.ownsRow_nil _ _ _ _
  | succ i =>
    rw [List.getElem?_cons_succ] at hl
    have hin : i < nb := by have := (List.getElem?_eq_some_iff.1 hl).1; rw [chunk_len] at this; exact this
    by_cases hi : i < fullN k g.length
    · rw [chunk_get _ _ _ hin] at hl
      exact own_base (e5 i u l hu (by rw [chunk_get _ _ _ hi]; exact hl)) hN
    · rw [chunk_empty hk hin (by omega)] at hl
      cases hl
      rw [e3 (i + 1) u (by omega) hu]
      exact World.ownsRow_nil _ _ _ _
end Go.Proofs.YtdmbcjckgfjcaaaGreatDoor
