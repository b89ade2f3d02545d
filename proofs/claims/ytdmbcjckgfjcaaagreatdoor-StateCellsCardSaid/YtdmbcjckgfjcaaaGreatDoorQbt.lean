import Derived.Test.YtdmbcjckgfjcaaaGreatDoorQbs
import Derived.Test.YtdmbcjckgfjcaaaGreatDoorQbr
/- Layer state: the laws' own: a plan by bytes, a new state, a turn that came in. -/
namespace Go.Proofs.YtdmbcjckgfjcaaaGreatDoor
open Go.RowKit Go.Joins Go.Shelf
theorem sm_of {k : Nat} {q : Sq} (h : TnS k q) (hk : k ≤ 100000) : SmS q := by
  obtain ⟨⟨a1, a2⟩, b, ⟨c1, c2⟩, d, e, ⟨f1, f2⟩, ⟨g1, g2⟩⟩ := h
  refine ⟨⟨fun l hl => ?_, by omega⟩, by omega, ⟨fun l hl => ?_, by omega⟩, by omega, by omega, ⟨fun x hx => ?_, by omega⟩, ⟨fun x hx => ?_, by omega⟩⟩
  · have := a1 l hl; omega
  · have := c1 l hl; omega
  · have := f1 x hx; unfold SmW; omega
  · have := g1 x hx; unfold SmU; omega
theorem made_st (v : Value) (l : List Int) (w : World) (hl : Bytes w v l) (hr : ∀ b ∈ l, 0 ≤ b ∧ b ≤ 255) (p : Pq) (hp : madeG (byteG (l.take 90)) = p) :
    Calls Tryz.prog 9 #[v] w fun x w' => ∃ ob rg pg : Hd, x = .returned (.agg (plLSa p (hdV ob) (hdV rg) (hdV pg) (hdV hd0)).toArray) ∧ PlanR w' (hdV ob) (hdV rg) (hdV pg) (hdV hd0) p ∧ Below w.heap.size w w' := by
  subst hp
  refine (made_any v l w hl hr _ rfl).mono ?_
  rintro x w' ⟨ob, rg, pg, rfl, hR, hb⟩
  obtain ⟨A0, c0, e0, -⟩ := hR.ob.form
  obtain ⟨A1, c1, e1, -⟩ := hR.rg.form
  obtain ⟨A2, c2, e2, -⟩ := hR.pg.form
  subst e0 e1 e2
  exact ⟨(A0, _, c0), (A1, _, c1), (A2, _, c2), rfl, ⟨hR.ob, hR.rg, hR.pg, Sl.nil_⟩, hb⟩
theorem New_q (p : Pq) (q : Sq) (ob rg pg : Hd) (hq : sNew p = q) (hs : p.ro < 18446744073709551616) (w : World) (hP : PlanR w (hdV ob) (hdV rg) (hdV pg) (hdV hd0) p) (hE : EnvT w) :
    Calls Tryz.prog 13 #[.agg (plLSa p (hdV ob) (hdV rg) (hdV pg) (hdV hd0)).toArray] w fun e w' => ∃ v : Sv, e = .returned (.agg (stL q v).toArray) ∧ StR w' v q ∧ Below w.heap.size w w' := by
  subst hq; exact New_st p ob rg pg hd0 hs w hP hE
abbrev tnL (a b c : Nat) : List Value := [.int .u8 (a : Nat), .int .u8 (b : Nat), .int .u8 (c : Nat)]
theorem turned_q (wh at_ to_ : Nat) (q r : Sq) (v : Sv) (hq : turnS wh at_ to_ q = r) (w : World) (hR : StR w v q) (hS : SmS q) (h : wh < 256 ∧ at_ < 256 ∧ to_ < 256) :
    Calls Tryz.prog 23 #[.agg (tnL wh at_ to_).toArray, .agg (stL q v).toArray] w fun e w' => ∃ v' : Sv, e = .returned (.agg (stL r v').toArray) ∧ StR w' v' r ∧ Below w.heap.size w w' := by
  subst hq; exact turned_anySa wh at_ to_ q v w hR hS h.1 h.2.1 h.2.2
theorem fieldsTurn : Tryz.prog.underlying 33 = some (.struct (Tryz.prog.fieldsOf 33)) := by kernel_rfl
theorem eqIn_turn (a b c a' b' c' : Nat) (w : World) : (Op.equalIn 10000 33 (.agg (tnL a b c).toArray) (.agg (tnL a' b' c').toArray)).run Tryz.prog w = .ok (decide ((a, b, c) = (a', b', c'))) w := by
  rw [run_equalIn_agg w 9999 _ _ _ fieldsTurn Tryz.stoodInHeld33]
  have hf : (Tryz.prog.fieldsOf 33).toList = [⟨ "Which", 5, 0, false, "", "", 0⟩, ⟨ "At", 5, 1, false, "", "", 1⟩, ⟨ "To", 5, 2, false, "", "", 2⟩] := by kernel_rfl
  rw [hf]
  by_cases h : a = a' <;> by_cases h1 : b = b' <;> by_cases h2 : c = c' <;> simp [Op.eqFields, go_sem, h, h1, h2] <;> omega
theorem neq_turn (a b c a' b' c' : Nat) (w : World) : (binOp .neq 33 (.agg (tnL a b c).toArray) (.agg (tnL a' b' c').toArray)).run Tryz.prog w = .ok (.bool (!decide ((a, b, c) = (a', b', c')))) w := by
  rw [run_neq_struct, eqIn_turn]; rfl
set_option maxRecDepth 100000 in
theorem open_turn {H : Type} {enc : TypeId × Value → H} {W : World} {base : Nat} {spare : Nat → Bool} {held : Bool} {v : Value} {d : DataW H} {ps : List MemPlace} {r : Reach} {b0 : Nat} (ok : Value.okWide Tryz.prog W r b0 33 v) (h : DataW.Trod enc Tryz.prog W base spare held 33 v d ps) :
    ∃ a b c : Nat, v = .agg (tnL a b c).toArray ∧ a < 256 ∧ b < 256 ∧ c < 256 := by
  obtain ⟨v0, v1, v2, y0, y1, y2, m, rfl, -, -, h0, h1, h2⟩ := Joins.open_agg3 Tryz.underlying33 (by kernel_rfl) (by kernel_rfl) ok h
  obtain ⟨a, ha, _, wa⟩ := DataW.trod_int Tryz.underlying5 h0
  obtain ⟨b, hb, _, wb⟩ := DataW.trod_int Tryz.underlying5 h1
  obtain ⟨c, hc, _, wc⟩ := DataW.trod_int Tryz.underlying5 h2
  simp only [List.cons.injEq, and_true] at ha hb hc
  subst ha hb hc
  have i : ∀ {z : Int}, (Lit.int IntKind.u8 z).wf = true → 0 ≤ z ∧ z ≤ 255 := fun w => by simpa [Lit.wf, IntKind.min, IntKind.max, IntKind.signed, IntKind.bits] using w
  have ra := i wa
  have rb := i wb
  have rc := i wc
  obtain ⟨x, rfl⟩ : ∃ n : Nat, a = n := ⟨a.toNat, by omega⟩
  obtain ⟨y, rfl⟩ : ∃ n : Nat, b = n := ⟨b.toNat, by omega⟩
  obtain ⟨z, rfl⟩ : ∃ n : Nat, c = n := ⟨c.toNat, by omega⟩
  exact ⟨x, y, z, rfl, by omega, by omega, by omega⟩
theorem Same_q (q q_ : Sq) (v v_ : Sv) (w : World) (b : Bool) (R1 : StR w v q) (R2 : StR w v_ q_) (hb : sSame q q_ = b) :
    Calls Tryz.prog 24 #[.agg (stL q v).toArray, .agg (stL q_ v_).toArray] w fun x w' => x = .returned (.bool b) ∧ Below w.heap.size w w' := by
  subst hb; exact Same_st q q_ v v_ w R1 R2
theorem box_newL (w : World) (l : List Value) (t : TypeId) : ∃ w1, w.alloc (.cells l.toArray t) = w1 ∧ Bc t w1 w.heap.size l ∧ Below w.heap.size w w1 ∧ w1.heap.size = w.heap.size + 1 :=
  ⟨_, rfl, bc_new w _ _, balS w _, by simp⟩
section
variable {P : Program}
/-- a box loaded whole, behind a guard that lets it run -/
theorem wpList_load_bcg {t : TypeId} {ops : Array Oper} {rest : List Oper} {o : Oper} {a : Act} {w : World} {Q : Exit → Act → World → Prop} (hgd : Region.wanted o (yielded ops a.tmps) = true) (ty : TypeId) (x : Operand) (ho : o.op = .load ty x)
    (B : Nat) (hx : a.eval x = .pointer (some ⟨B, 0, none⟩)) (cs : List Value) (k : Bc t w B cs) (d : TypeDesc) (hu : P.underlying ty = some d) (hd : (match d with | .struct _ | .array _ _ => true | _ => false) = true) (hi : (P.info? ty).map (·.size) = some cs.length)
    (hK : wpList P ops Q rest (a.put o.dst (.agg cs.toArray)) w) : wpList P ops Q (o :: rest) a w :=
  wpList_step fun _ hK' => by
    rw [if_pos hgd]
    exact wp_load_seg ty x ho B 0 hx cs d (fun j v hv => by rw [Nat.zero_add, k.cell j]; exact hv) hu hd hi (hK' _ _ hK)
end
end Go.Proofs.YtdmbcjckgfjcaaaGreatDoor
/- Layer state: the law StateSame. Written by tools/genstatelaw1.py. -/
namespace Go.Proofs.YtdmbcjckgfjcaaaGreatDoor
open Go.RowKit Go.Joins Go.Shelf
set_option maxRecDepth 100000 in
set_option maxHeartbeats 16000000 in
theorem same_walk (v : Value) (l : List Int) (a b c a' b' c' : Nat) (w : World) (hl : Bytes w v l) (hr : ∀ b ∈ l, 0 ≤ b ∧ b ≤ 255) (ht : a < 256 ∧ b < 256 ∧ c < 256) (hu : a' < 256 ∧ b' < 256 ∧ c' < 256) (hE : EnvT w) :
    Calls Tryz.prog 6 #[v, .agg (tnL a b c).toArray, .agg (tnL a' b' c').toArray] w fun x w' => x = .returned (.bool true) ∧ Below w.heap.size w w' := by
  obtain ⟨w1, e1, k1, k2, hb1, hs1⟩ := two_box w (tnL a b c) (tnL a' b' c') 33 33
  have HL := hide (hl.below hb1)
  have HR := hide hr
  have HE := hide (hE.below hb1)
  have HB := hide hb1
  have E1 := hide e1
  have HKT := hide k1
  have HKU := hide k2
  obtain ⟨Av, cv, rfl, -, -, -⟩ := id hl
  obtain ⟨p, hp⟩ : ∃ p, madeG (byteG (l.take 90)) = p := ⟨_, rfl⟩
  have hq := madeQ (byteG (l.take 90))
  rw [hp] at hq
  obtain ⟨q, hn⟩ : ∃ q, sNew p = q := ⟨_, rfl⟩
  have hT := tn_new hq.rt hq.ro
  rw [hn] at hT
  obtain ⟨x, hx⟩ : ∃ x, turnS a b c q = x := ⟨_, rfl⟩
  obtain ⟨y, hy⟩ : ∃ y, turnS a' b' c' q = y := ⟨_, rfl⟩
  have hSq : SmS q := sm_of hT (by decide)
  obtain ⟨sm, hsm⟩ : ∃ sm, sSame x y = sm := ⟨_, rfl⟩
  have hsm2 : sSame y x = sm := by rw [sSame_comm]; exact hsm
  have hxx : sSame x x = true := sSame_self x
  have hqq : sSame q q = true := sSame_self q
  have htu : (a, b, c) = (a', b', c') → sm = true := fun h => by
    injection h with h1 h2
    injection h2 with h2 h3
    subst h1 h2 h3
    rw [← hsm, ← hx, ← hy]; exact sSame_self _
  have HP := hide hp
  have HQ := hide hq
  have HN := hide hn
  have HX := hide hx
  have HY := hide hy
  have HSQ := hide hSq
  have HSM := hide hsm
  have HSM2 := hide hsm2
  have HXX := hide hxx
  have HQQ := hide hqq
  have HTU := hide htu
  clear hl hr hE e1 k1 k2 hb1 hs1 hp hq hn hT hx hy hSq hsm hsm2 hxx hqq htu
  go_enter Tryz.func6, Tryz.ntmps6
  go_upto_region 1 with (fail)
  rw [E1.out]
  clear E1
  go_upto_region 4 with (first
    | (go_at_call 8; (with_reducible refine (examples_anySa _ HE.out).mono ?_); rintro e_ wa ⟨rfl, hb⟩; replace HL := hide (HL.out.below hb); replace HE := hide (HE.out.below hb); replace HKT := hide (HKT.out.below hb); replace HKU := hide (HKU.out.below hb); replace HB := hide (bcall HB.out hb); clear hb))
  go_upto_region 5 with (first
    | (go_at_call 9; (with_reducible refine (made_st _ l _ HL.out HR.out p HP.out).mono ?_); rintro e_ wb ⟨ob, rg, pg, rfl, hPR, hb⟩; replace HL := hide (HL.out.below hb); replace HE := hide (HE.out.below hb); replace HKT := hide (HKT.out.below hb); replace HKU := hide (HKU.out.below hb); replace HB := hide (bcall HB.out hb); have HPR := hide hPR; clear hPR; clear hb)
    | (go_at_call 13; (with_reducible refine (New_q p q ob rg pg HN.out HQ.out.ro _ HPR.out HE.out).mono ?_); rintro e_ wc ⟨vs, rfl, hR, hb⟩; replace HL := hide (HL.out.below hb); replace HE := hide (HE.out.below hb); replace HKT := hide (HKT.out.below hb); replace HKU := hide (HKU.out.below hb); replace HPR := hide (HPR.out.below hb); replace HB := hide (bcall HB.out hb); have HRS := hide hR; clear hR; clear hb)
    | (refine wpList_store_row rfl 66 (.tmp 8) (.tmp 17) rfl wc.heap.size rfl (stL q vs).toArray rfl _ _ (heap_alloc_new wc _) (by kernel_rfl) rfl (stA_one q vs) ?_; rw [setRow_alloc]))
  clear HPR
  obtain ⟨wd, e_, k_, hb, -⟩ := box_newL wc (stL q vs) 66
  rw [e_]
  clear e_
  replace HL := hide (HL.out.below hb)
  replace HE := hide (HE.out.below hb)
  replace HKT := hide (HKT.out.below hb)
  replace HKU := hide (HKU.out.below hb)
  replace HRS := hide (HRS.out.below hb)
  replace HB := hide (bcall HB.out hb)
  have HKS := hide k_
  clear k_ hb
  go_upto_region 6 with (first
    | (refine wpList_load_row rfl 33 (.tmp 4) rfl w.heap.size rfl (tnL a b c).toArray _ _ _ HKT.out Tryz.underlying33 rfl (by kernel_rfl) ?_)
    | (refine wpList_load_row rfl 66 (.tmp 8) rfl wc.heap.size rfl (stL q vs).toArray _ _ _ HKS.out Tryz.underlying66 rfl (by kernel_rfl) ?_)
    | (go_at_call 23; (with_reducible refine (turned_q a b c q x vs HX.out _ HRS.out HSQ.out ht).mono ?_); rintro e_ we ⟨vx, rfl, hR, hb⟩; replace HL := hide (HL.out.below hb); replace HE := hide (HE.out.below hb); replace HKT := hide (HKT.out.below hb); replace HKU := hide (HKU.out.below hb); replace HRS := hide (HRS.out.below hb); replace HKS := hide (HKS.out.below hb); replace HB := hide (bcall HB.out hb); have HRX := hide hR; clear hR; clear hb)
    | (refine wpList_store_row rfl 66 (.tmp 9) (.tmp 20) rfl we.heap.size rfl (stL x vx).toArray rfl _ _ (heap_alloc_new we _) (by kernel_rfl) rfl (stA_one x vx) ?_; rw [setRow_alloc]))
  obtain ⟨wf, e_, k_, hb, -⟩ := box_newL we (stL x vx) 66
  rw [e_]
  clear e_
  replace HL := hide (HL.out.below hb)
  replace HE := hide (HE.out.below hb)
  replace HKT := hide (HKT.out.below hb)
  replace HKU := hide (HKU.out.below hb)
  replace HRS := hide (HRS.out.below hb)
  replace HKS := hide (HKS.out.below hb)
  replace HRX := hide (HRX.out.below hb)
  replace HB := hide (bcall HB.out hb)
  have HKX := hide k_
  clear k_ hb
  go_upto_region 7 with (first
    | (refine wpList_load_row rfl 33 (.tmp 5) rfl (w.heap.size + 1) rfl (tnL a' b' c').toArray _ _ _ HKU.out Tryz.underlying33 rfl (by kernel_rfl) ?_)
    | (refine wpList_load_row rfl 66 (.tmp 8) rfl wc.heap.size rfl (stL q vs).toArray _ _ _ HKS.out Tryz.underlying66 rfl (by kernel_rfl) ?_)
    | (go_at_call 23; (with_reducible refine (turned_q a' b' c' q y vs HY.out _ HRS.out HSQ.out hu).mono ?_); rintro e_ wg ⟨vy, rfl, hR, hb⟩; replace HL := hide (HL.out.below hb); replace HE := hide (HE.out.below hb); replace HKT := hide (HKT.out.below hb); replace HKU := hide (HKU.out.below hb); replace HRS := hide (HRS.out.below hb); replace HKS := hide (HKS.out.below hb); replace HRX := hide (HRX.out.below hb); replace HKX := hide (HKX.out.below hb); replace HB := hide (bcall HB.out hb); have HRY := hide hR; clear hR; clear hb)
    | (refine wpList_store_row rfl 66 (.tmp 10) (.tmp 23) rfl wg.heap.size rfl (stL y vy).toArray rfl _ _ (heap_alloc_new wg _) (by kernel_rfl) rfl (stA_one y vy) ?_; rw [setRow_alloc]))
  obtain ⟨wh, e_, k_, hb, -⟩ := box_newL wg (stL y vy) 66
  rw [e_]
  clear e_
  replace HL := hide (HL.out.below hb)
  replace HE := hide (HE.out.below hb)
  replace HKT := hide (HKT.out.below hb)
  replace HKU := hide (HKU.out.below hb)
  replace HRS := hide (HRS.out.below hb)
  replace HKS := hide (HKS.out.below hb)
  replace HRX := hide (HRX.out.below hb)
  replace HKX := hide (HKX.out.below hb)
  replace HRY := hide (HRY.out.below hb)
  replace HB := hide (bcall HB.out hb)
  have HKY := hide k_
  clear k_ hb
  go_upto_region 8 with (first
    | (refine wpList_load_row rfl 66 (.tmp 9) rfl we.heap.size rfl (stL x vx).toArray _ _ _ HKX.out Tryz.underlying66 rfl (by kernel_rfl) ?_)
    | (refine wpList_load_row rfl 66 (.tmp 10) rfl wg.heap.size rfl (stL y vy).toArray _ _ _ HKY.out Tryz.underlying66 rfl (by kernel_rfl) ?_)
    | (go_at_call 24; (with_reducible refine (Same_q x y vx vy _ sm HRX.out HRY.out HSM.out).mono ?_); rintro e_ wi ⟨rfl, hb⟩; replace HL := hide (HL.out.below hb); replace HE := hide (HE.out.below hb); replace HKT := hide (HKT.out.below hb); replace HKU := hide (HKU.out.below hb); replace HRS := hide (HRS.out.below hb); replace HKS := hide (HKS.out.below hb); replace HRX := hide (HRX.out.below hb); replace HKX := hide (HKX.out.below hb); replace HRY := hide (HRY.out.below hb); replace HKY := hide (HKY.out.below hb); replace HB := hide (bcall HB.out hb); clear hb))
  rcases Bool.eq_false_or_eq_true sm with hsb | hsb
  all_goals subst hsb
  · skip
    go_upto_region 10 with (first
      | (refine wpList_load_row rfl 66 (.tmp 9) rfl we.heap.size rfl (stL x vx).toArray _ _ _ HKX.out Tryz.underlying66 rfl (by kernel_rfl) ?_)
      | (refine wpList_load_bcg rfl 66 (.tmp 9) rfl we.heap.size rfl (stL x vx) HKX.out _ Tryz.underlying66 rfl (by kernel_rfl) ?_)
      | (refine wpList_load_bcg rfl 66 (.tmp 10) rfl wg.heap.size rfl (stL y vy) HKY.out _ Tryz.underlying66 rfl (by kernel_rfl) ?_)
      | (go_at_call 24; (with_reducible refine (Same_q x x vx vx _ true HRX.out HRX.out HXX.out).mono ?_); rintro e_ wj ⟨rfl, hb⟩; replace HL := hide (HL.out.below hb); replace HE := hide (HE.out.below hb); replace HKT := hide (HKT.out.below hb); replace HKU := hide (HKU.out.below hb); replace HRS := hide (HRS.out.below hb); replace HKS := hide (HKS.out.below hb); replace HRX := hide (HRX.out.below hb); replace HKX := hide (HKX.out.below hb); replace HRY := hide (HRY.out.below hb); replace HKY := hide (HKY.out.below hb); replace HB := hide (bcall HB.out hb); clear hb)
      | (go_at_call 24; (with_reducible refine (Same_q y x vy vx _ true HRY.out HRX.out HSM2.out).mono ?_); rintro e_ wk ⟨rfl, hb⟩; replace HL := hide (HL.out.below hb); replace HE := hide (HE.out.below hb); replace HKT := hide (HKT.out.below hb); replace HKU := hide (HKU.out.below hb); replace HRS := hide (HRS.out.below hb); replace HKS := hide (HKS.out.below hb); replace HRX := hide (HRX.out.below hb); replace HKX := hide (HKX.out.below hb); replace HRY := hide (HRY.out.below hb); replace HKY := hide (HKY.out.below hb); replace HB := hide (bcall HB.out hb); clear hb))
    have HBC := hide (show Below wk.heap.size wk wk.drew from ⟨rfl, rfl, rfl, Nat.le_refl _, fun _ _ => rfl⟩)
    obtain ⟨bn, hbn⟩ : ∃ bn, decide ((a, b, c) = (a', b', c')) = bn := ⟨_, rfl⟩
    have hneq := fun w_ => neq_turn a b c a' b' c' w_
    simp only [hbn] at hneq
    clear hbn
    cases bn
    · skip
      refine wp_region_held_drew (S := fun w_ => Below wk.heap.size wk w_) (by kernel_rfl) ?_ (fun hHeld => ?_)
      · exact (by exact HBC.out)
      refine tk 0 (h := ?_)
      refine tk 1 (h := ?_)
      refine tk 2 (hy := fun w_ h_ => ex_loadk (m := (stL x vx)) rfl rfl (HKX.out.below h_) Tryz.underlying66 rfl (by kernel_rfl) rfl) (h := ?_)
      refine tk 3 (hy := fun w_ h_ => ex_loadk (m := (tnL a b c)) rfl rfl (HKT.out.below h_) Tryz.underlying33 rfl (by kernel_rfl) rfl) (h := ?_)
      refine tk 4 (hy := fun w_ h_ => ex_loadk (m := (stL q vs)) rfl rfl (HKS.out.below h_) Tryz.underlying66 rfl (by kernel_rfl) rfl) (h := ?_)
      refine wpAnyH_ready (rs := [5]) (by kernel_rfl) (by simp) ?_
      refine AllReadyH.cons rfl (fun K hK => ?_) AllReadyH.nil
      go_simp
      go_at_call 23
      (with_reducible refine (turned_q a b c q x vs HX.out _ (HRS.out.below HBC.out) HSQ.out ht).mono ?_)
      rintro x w4 ⟨vz, rfl, hR, hb⟩
      have HRZ := hide hR
      clear hR
      have HBC := hide (bcall HBC.out hb)
      clear hb
      (try go_simp)
      refine hK.out _ _ (by exact HBC.out) (fun hHeld => ?_)
      clear hK
      (try simp only [Act.put, List.setIfInBounds_toArray, List.set_cons_zero, List.set_cons_succ])
      refine wpAnyH_ready (rs := [6]) (by kernel_rfl) (by simp) ?_
      refine AllReadyH.cons rfl (fun K hK => ?_) AllReadyH.nil
      go_simp
      go_at_call 24
      (with_reducible refine (Same_q x x vx vz _ true (HRX.out.below HBC.out) HRZ.out HXX.out).mono ?_)
      rintro x w4 ⟨rfl, hb⟩
      have HBC := hide (bcall HBC.out hb)
      clear hb
      (try go_simp)
      refine hK.out _ _ (by exact HBC.out) (fun hHeld => ?_)
      clear hK
      (try simp only [Act.put, List.setIfInBounds_toArray, List.set_cons_zero, List.set_cons_succ])
      refine tk 7 (h := ?_)
      refine tk 8 (h := ?_)
      refine tk 9 (hy := fun w_ h_ => ex_loadk (m := (tnL a b c)) rfl rfl (HKT.out.below h_) Tryz.underlying33 rfl (by kernel_rfl) rfl) (h := ?_)
      refine tk 10 (hy := fun w_ h_ => ex_loadk (m := (tnL a' b' c')) rfl rfl (HKU.out.below h_) Tryz.underlying33 rfl (by kernel_rfl) rfl) (h := ?_)
      refine tk 11 (h := ?_)
      refine tk 12 (h := ?_)
      refine tu 13 (h := ?_)
      refine tk 14 (h := ?_)
      refine tk 15 (h := ?_)
      refine tk 16 (h := ?_)
      refine tk 17 (h := ?_)
      refine tk 20 (hy := fun w_ h_ => ex_loadk (m := (stL q vs)) rfl rfl (HKS.out.below h_) Tryz.underlying66 rfl (by kernel_rfl) rfl) (h := ?_)
      refine wpAnyH_ready (rs := [18]) (by kernel_rfl) (by simp) ?_
      refine AllReadyH.cons rfl (fun K hK => ?_) AllReadyH.nil
      go_simp
      go_at_call 9
      (with_reducible refine (made_st _ l _ (HL.out.below HBC.out) HR.out p HP.out).mono ?_)
      rintro x w4 ⟨ob2, rg2, pg2, rfl, hPR, hb⟩
      have HPR := hide hPR
      clear hPR
      have HBC := hide (bcall HBC.out hb)
      clear hb
      (try go_simp)
      refine hK.out _ _ (by exact HBC.out) (fun hHeld => ?_)
      clear hK
      (try simp only [Act.put, List.setIfInBounds_toArray, List.set_cons_zero, List.set_cons_succ])
      refine wpAnyH_ready (rs := [19]) (by kernel_rfl) (by simp) ?_
      refine AllReadyH.cons rfl (fun K hK => ?_) AllReadyH.nil
      go_simp
      go_at_call 13
      (with_reducible refine (New_q p q ob2 rg2 pg2 HN.out HQ.out.ro _ HPR.out (HE.out.below HBC.out)).mono ?_)
      rintro x w4 ⟨vt, rfl, hR, hb⟩
      have HRT := hide hR
      clear hR
      have HBC := hide (bcall HBC.out hb)
      clear hb
      (try go_simp)
      refine hK.out _ _ (by exact HBC.out) (fun hHeld => ?_)
      clear hK
      (try simp only [Act.put, List.setIfInBounds_toArray, List.set_cons_zero, List.set_cons_succ])
      refine wpAnyH_ready (rs := [21]) (by kernel_rfl) (by simp) ?_
      refine AllReadyH.cons rfl (fun K hK => ?_) AllReadyH.nil
      go_simp
      go_at_call 24
      (with_reducible refine (Same_q q q vt vs _ true HRT.out (HRS.out.below HBC.out) HQQ.out).mono ?_)
      rintro x w4 ⟨rfl, hb⟩
      have HBC := hide (bcall HBC.out hb)
      clear hb
      (try go_simp)
      refine hK.out _ _ (by exact HBC.out) (fun hHeld => ?_)
      clear hK
      (try simp only [Act.put, List.setIfInBounds_toArray, List.set_cons_zero, List.set_cons_succ])
      refine tk 22 (h := ?_)
      refine tk 23 (h := ?_)
      refine wpAnyH_done (by kernel_rfl) ?_ _
      go_wp2
      go_ret
      exact ⟨rfl, HB.out.trans (HBC.out.mono HB.out.size)⟩
    · skip
      refine wp_region_held_drew (S := fun w_ => Below wk.heap.size wk w_) (by kernel_rfl) ?_ (fun hHeld => ?_)
      · exact (by exact HBC.out)
      refine tk 0 (h := ?_)
      refine tk 1 (h := ?_)
      refine tk 2 (hy := fun w_ h_ => ex_loadk (m := (stL x vx)) rfl rfl (HKX.out.below h_) Tryz.underlying66 rfl (by kernel_rfl) rfl) (h := ?_)
      refine tk 3 (hy := fun w_ h_ => ex_loadk (m := (tnL a b c)) rfl rfl (HKT.out.below h_) Tryz.underlying33 rfl (by kernel_rfl) rfl) (h := ?_)
      refine tk 4 (hy := fun w_ h_ => ex_loadk (m := (stL q vs)) rfl rfl (HKS.out.below h_) Tryz.underlying66 rfl (by kernel_rfl) rfl) (h := ?_)
      refine wpAnyH_ready (rs := [5]) (by kernel_rfl) (by simp) ?_
      refine AllReadyH.cons rfl (fun K hK => ?_) AllReadyH.nil
      go_simp
      go_at_call 23
      (with_reducible refine (turned_q a b c q x vs HX.out _ (HRS.out.below HBC.out) HSQ.out ht).mono ?_)
      rintro x w4 ⟨vz, rfl, hR, hb⟩
      have HRZ := hide hR
      clear hR
      have HBC := hide (bcall HBC.out hb)
      clear hb
      (try go_simp)
      refine hK.out _ _ (by exact HBC.out) (fun hHeld => ?_)
      clear hK
      (try simp only [Act.put, List.setIfInBounds_toArray, List.set_cons_zero, List.set_cons_succ])
      refine wpAnyH_ready (rs := [6]) (by kernel_rfl) (by simp) ?_
      refine AllReadyH.cons rfl (fun K hK => ?_) AllReadyH.nil
      go_simp
      go_at_call 24
      (with_reducible refine (Same_q x x vx vz _ true (HRX.out.below HBC.out) HRZ.out HXX.out).mono ?_)
      rintro x w4 ⟨rfl, hb⟩
      have HBC := hide (bcall HBC.out hb)
      clear hb
      (try go_simp)
      refine hK.out _ _ (by exact HBC.out) (fun hHeld => ?_)
      clear hK
      (try simp only [Act.put, List.setIfInBounds_toArray, List.set_cons_zero, List.set_cons_succ])
      refine tk 7 (h := ?_)
      refine tk 8 (h := ?_)
      refine tk 9 (hy := fun w_ h_ => ex_loadk (m := (tnL a b c)) rfl rfl (HKT.out.below h_) Tryz.underlying33 rfl (by kernel_rfl) rfl) (h := ?_)
      refine tk 10 (hy := fun w_ h_ => ex_loadk (m := (tnL a' b' c')) rfl rfl (HKU.out.below h_) Tryz.underlying33 rfl (by kernel_rfl) rfl) (h := ?_)
      refine tk 11 (h := ?_)
      refine tk 12 (h := ?_)
      refine tk 13 (h := ?_)
      refine tk 14 (h := ?_)
      refine tk 15 (h := ?_)
      refine tk 16 (h := ?_)
      refine tk 17 (h := ?_)
      refine tk 20 (hy := fun w_ h_ => ex_loadk (m := (stL q vs)) rfl rfl (HKS.out.below h_) Tryz.underlying66 rfl (by kernel_rfl) rfl) (h := ?_)
      refine wpAnyH_ready (rs := [18]) (by kernel_rfl) (by simp) ?_
      refine AllReadyH.cons rfl (fun K hK => ?_) AllReadyH.nil
      go_simp
      go_at_call 9
      (with_reducible refine (made_st _ l _ (HL.out.below HBC.out) HR.out p HP.out).mono ?_)
      rintro x w4 ⟨ob2, rg2, pg2, rfl, hPR, hb⟩
      have HPR := hide hPR
      clear hPR
      have HBC := hide (bcall HBC.out hb)
      clear hb
      (try go_simp)
      refine hK.out _ _ (by exact HBC.out) (fun hHeld => ?_)
      clear hK
      (try simp only [Act.put, List.setIfInBounds_toArray, List.set_cons_zero, List.set_cons_succ])
      refine wpAnyH_ready (rs := [19]) (by kernel_rfl) (by simp) ?_
      refine AllReadyH.cons rfl (fun K hK => ?_) AllReadyH.nil
      go_simp
      go_at_call 13
      (with_reducible refine (New_q p q ob2 rg2 pg2 HN.out HQ.out.ro _ HPR.out (HE.out.below HBC.out)).mono ?_)
      rintro x w4 ⟨vt, rfl, hR, hb⟩
      have HRT := hide hR
      clear hR
      have HBC := hide (bcall HBC.out hb)
      clear hb
      (try go_simp)
      refine hK.out _ _ (by exact HBC.out) (fun hHeld => ?_)
      clear hK
      (try simp only [Act.put, List.setIfInBounds_toArray, List.set_cons_zero, List.set_cons_succ])
      refine wpAnyH_ready (rs := [21]) (by kernel_rfl) (by simp) ?_
      refine AllReadyH.cons rfl (fun K hK => ?_) AllReadyH.nil
      go_simp
      go_at_call 24
      (with_reducible refine (Same_q q q vt vs _ true HRT.out (HRS.out.below HBC.out) HQQ.out).mono ?_)
      rintro x w4 ⟨rfl, hb⟩
      have HBC := hide (bcall HBC.out hb)
      clear hb
      (try go_simp)
      refine hK.out _ _ (by exact HBC.out) (fun hHeld => ?_)
      clear hK
      (try simp only [Act.put, List.setIfInBounds_toArray, List.set_cons_zero, List.set_cons_succ])
      refine tk 22 (h := ?_)
      refine tk 23 (h := ?_)
      refine wpAnyH_done (by kernel_rfl) ?_ _
      go_wp2
      go_ret
      exact ⟨rfl, HB.out.trans (HBC.out.mono HB.out.size)⟩
  · skip
    go_upto_region 10 with (first
      | (refine wpList_load_row rfl 66 (.tmp 9) rfl we.heap.size rfl (stL x vx).toArray _ _ _ HKX.out Tryz.underlying66 rfl (by kernel_rfl) ?_)
      | (refine wpList_load_bcg rfl 66 (.tmp 9) rfl we.heap.size rfl (stL x vx) HKX.out _ Tryz.underlying66 rfl (by kernel_rfl) ?_)
      | (refine wpList_load_bcg rfl 66 (.tmp 10) rfl wg.heap.size rfl (stL y vy) HKY.out _ Tryz.underlying66 rfl (by kernel_rfl) ?_)
      | (go_at_call 24; (with_reducible refine (Same_q x x vx vx _ true HRX.out HRX.out HXX.out).mono ?_); rintro e_ wj ⟨rfl, hb⟩; replace HL := hide (HL.out.below hb); replace HE := hide (HE.out.below hb); replace HKT := hide (HKT.out.below hb); replace HKU := hide (HKU.out.below hb); replace HRS := hide (HRS.out.below hb); replace HKS := hide (HKS.out.below hb); replace HRX := hide (HRX.out.below hb); replace HKX := hide (HKX.out.below hb); replace HRY := hide (HRY.out.below hb); replace HKY := hide (HKY.out.below hb); replace HB := hide (bcall HB.out hb); clear hb)
      | (go_at_call 24; (with_reducible refine (Same_q y x vy vx _ false HRY.out HRX.out HSM2.out).mono ?_); rintro e_ wk ⟨rfl, hb⟩; replace HL := hide (HL.out.below hb); replace HE := hide (HE.out.below hb); replace HKT := hide (HKT.out.below hb); replace HKU := hide (HKU.out.below hb); replace HRS := hide (HRS.out.below hb); replace HKS := hide (HKS.out.below hb); replace HRX := hide (HRX.out.below hb); replace HKX := hide (HKX.out.below hb); replace HRY := hide (HRY.out.below hb); replace HKY := hide (HKY.out.below hb); replace HB := hide (bcall HB.out hb); clear hb))
    have HBC := hide (show Below wk.heap.size wk wk.drew from ⟨rfl, rfl, rfl, Nat.le_refl _, fun _ _ => rfl⟩)
    have hne : decide ((a, b, c) = (a', b', c')) = false := by rw [decide_eq_false_iff_not]; intro h; exact absurd (HTU.out h) (by decide)
    have hneq := fun w_ => neq_turn a b c a' b' c' w_
    simp only [hne] at hneq
    clear hne
    refine wp_region_held_drew (S := fun w_ => Below wk.heap.size wk w_) (by kernel_rfl) ?_ (fun hHeld => ?_)
    · exact (by exact HBC.out)
    refine tk 0 (h := ?_)
    refine tk 1 (h := ?_)
    refine tk 2 (hy := fun w_ h_ => ex_loadk (m := (stL x vx)) rfl rfl (HKX.out.below h_) Tryz.underlying66 rfl (by kernel_rfl) rfl) (h := ?_)
    refine tk 3 (hy := fun w_ h_ => ex_loadk (m := (tnL a b c)) rfl rfl (HKT.out.below h_) Tryz.underlying33 rfl (by kernel_rfl) rfl) (h := ?_)
    refine tk 4 (hy := fun w_ h_ => ex_loadk (m := (stL q vs)) rfl rfl (HKS.out.below h_) Tryz.underlying66 rfl (by kernel_rfl) rfl) (h := ?_)
    refine wpAnyH_ready (rs := [5]) (by kernel_rfl) (by simp) ?_
    refine AllReadyH.cons rfl (fun K hK => ?_) AllReadyH.nil
    go_simp
    go_at_call 23
    (with_reducible refine (turned_q a b c q x vs HX.out _ (HRS.out.below HBC.out) HSQ.out ht).mono ?_)
    rintro x w4 ⟨vz, rfl, hR, hb⟩
    have HRZ := hide hR
    clear hR
    have HBC := hide (bcall HBC.out hb)
    clear hb
    (try go_simp)
    refine hK.out _ _ (by exact HBC.out) (fun hHeld => ?_)
    clear hK
    (try simp only [Act.put, List.setIfInBounds_toArray, List.set_cons_zero, List.set_cons_succ])
    refine wpAnyH_ready (rs := [6]) (by kernel_rfl) (by simp) ?_
    refine AllReadyH.cons rfl (fun K hK => ?_) AllReadyH.nil
    go_simp
    go_at_call 24
    (with_reducible refine (Same_q x x vx vz _ true (HRX.out.below HBC.out) HRZ.out HXX.out).mono ?_)
    rintro x w4 ⟨rfl, hb⟩
    have HBC := hide (bcall HBC.out hb)
    clear hb
    (try go_simp)
    refine hK.out _ _ (by exact HBC.out) (fun hHeld => ?_)
    clear hK
    (try simp only [Act.put, List.setIfInBounds_toArray, List.set_cons_zero, List.set_cons_succ])
    refine tk 7 (h := ?_)
    refine tk 8 (h := ?_)
    refine tk 9 (hy := fun w_ h_ => ex_loadk (m := (tnL a b c)) rfl rfl (HKT.out.below h_) Tryz.underlying33 rfl (by kernel_rfl) rfl) (h := ?_)
    refine tk 10 (hy := fun w_ h_ => ex_loadk (m := (tnL a' b' c')) rfl rfl (HKU.out.below h_) Tryz.underlying33 rfl (by kernel_rfl) rfl) (h := ?_)
    refine tk 11 (h := ?_)
    refine tk 12 (h := ?_)
    refine tu 13 (h := ?_)
    refine tk 14 (h := ?_)
    refine tk 15 (h := ?_)
    refine tk 16 (h := ?_)
    refine tk 17 (h := ?_)
    refine tk 20 (hy := fun w_ h_ => ex_loadk (m := (stL q vs)) rfl rfl (HKS.out.below h_) Tryz.underlying66 rfl (by kernel_rfl) rfl) (h := ?_)
    refine wpAnyH_ready (rs := [18]) (by kernel_rfl) (by simp) ?_
    refine AllReadyH.cons rfl (fun K hK => ?_) AllReadyH.nil
    go_simp
    go_at_call 9
    (with_reducible refine (made_st _ l _ (HL.out.below HBC.out) HR.out p HP.out).mono ?_)
    rintro x w4 ⟨ob2, rg2, pg2, rfl, hPR, hb⟩
    have HPR := hide hPR
    clear hPR
    have HBC := hide (bcall HBC.out hb)
    clear hb
    (try go_simp)
    refine hK.out _ _ (by exact HBC.out) (fun hHeld => ?_)
    clear hK
    (try simp only [Act.put, List.setIfInBounds_toArray, List.set_cons_zero, List.set_cons_succ])
    refine wpAnyH_ready (rs := [19]) (by kernel_rfl) (by simp) ?_
    refine AllReadyH.cons rfl (fun K hK => ?_) AllReadyH.nil
    go_simp
    go_at_call 13
    (with_reducible refine (New_q p q ob2 rg2 pg2 HN.out HQ.out.ro _ HPR.out (HE.out.below HBC.out)).mono ?_)
    rintro x w4 ⟨vt, rfl, hR, hb⟩
    have HRT := hide hR
    clear hR
    have HBC := hide (bcall HBC.out hb)
    clear hb
    (try go_simp)
    refine hK.out _ _ (by exact HBC.out) (fun hHeld => ?_)
    clear hK
    (try simp only [Act.put, List.setIfInBounds_toArray, List.set_cons_zero, List.set_cons_succ])
    refine wpAnyH_ready (rs := [21]) (by kernel_rfl) (by simp) ?_
    refine AllReadyH.cons rfl (fun K hK => ?_) AllReadyH.nil
    go_simp
    go_at_call 24
    (with_reducible refine (Same_q q q vt vs _ true HRT.out (HRS.out.below HBC.out) HQQ.out).mono ?_)
    rintro x w4 ⟨rfl, hb⟩
    have HBC := hide (bcall HBC.out hb)
    clear hb
    (try go_simp)
    refine hK.out _ _ (by exact HBC.out) (fun hHeld => ?_)
    clear hK
    (try simp only [Act.put, List.setIfInBounds_toArray, List.set_cons_zero, List.set_cons_succ])
    refine tk 22 (h := ?_)
    refine tk 23 (h := ?_)
    refine wpAnyH_done (by kernel_rfl) ?_ _
    go_wp2
    go_ret
    exact ⟨rfl, HB.out.trans (HBC.out.mono HB.out.size)⟩
end Go.Proofs.YtdmbcjckgfjcaaaGreatDoor
/- Layer state: a copy that is scribbled over: what is kept at each write. -/
namespace Go.Proofs.YtdmbcjckgfjcaaaGreatDoor
open Go.RowKit Go.Joins Go.Shelf
section
variable {w : World} {g : Nat} {cur : Array Value} {U : TypeId}
theorem bc_type {t : TypeId} {B : Nat} {l : List Value} (h : Bc t w B l) (hg : w.heap[g]? = some (.cells cur U (0, 0))) (hne : t ≠ U) (i : Nat) (u : Value) : Bc t (w.setCell ⟨g, i, none⟩ u) B l := by
  refine bc_other h (fun e => ?_) i u
  subst e
  have h1 : some (Obj.cells l.toArray t (0, 0)) = some (Obj.cells cur U (0, 0)) := (show w.heap[B]? = _ from h).symm.trans hg
  injection h1 with h1
  injection h1 with _ h1
  exact hne h1
theorem own_keep {b size n : Nat} {T : TypeId} {v : Value} {xs : List Value} (h : w.ownsRow b T size v n xs) (hg : w.heap[g]? = some (.cells cur U (0, 0))) (hne : T ≠ U) (i : Nat) (u : Value) : (w.setCell ⟨g, i, none⟩ u).ownsRow b T size v n xs := by
  refine ⟨h.1, ?_⟩
  rcases h.2 with h' | ⟨g', cap', cur', h', k1, k2, k3⟩
  · exact .inl h'
  · refine .inr ⟨g', cap', cur', h', k1, (Below.heap_setCell w ⟨g, i, none⟩ u g' (fun e => ?_)).trans k2, k3⟩
    have e : g' = g := e
    subst e
    have h1 : some (Obj.cells cur' T (0, 0)) = some (Obj.cells cur U (0, 0)) := k2.symm.trans hg
    injection h1 with h1
    injection h1 with _ h1
    exact hne h1
end
/-- a row of ints in a block from b on, before e, whatever it holds -/
def IntRow (b e : Nat) (w : World) (h : Hd) : Prop := h.2.1 ≤ 9223372036854775807 ∧ (h.2.1 = 0 ∨ ∃ (g : Nat) (cur : Array Value), h.1 = some ⟨g, 0, none⟩ ∧ b ≤ g ∧ g < e ∧ w.heap[g]? = some (.cells cur 3 (0, 0)) ∧ h.2.1 ≤ cur.size)
theorem IntRow.set {b e : Nat} {w : World} {h : Hd} (k : IntRow b e w h) (g i : Nat) (u : Value) : IntRow b e (w.setCell ⟨g, i, none⟩ u) h := by
  refine ⟨k.1, ?_⟩
  rcases k.2 with k | ⟨g', cur, k1, k2, k3, k4, k5⟩
  · exact .inl k
  · by_cases e : g' = g
    · subst e
      exact .inr ⟨g', _, k1, k2, k3, block_setCell k4 u, by simpa using k5⟩
    · exact .inr ⟨g', cur, k1, k2, k3, (Below.heap_setCell w ⟨g, i, none⟩ u g' e).trans k4, k5⟩
theorem introw_own {b n : Nat} {w : World} {h : Hd} {xs : List Value} (k : w.ownsRow b 3 1 (hdV h) n xs) : IntRow b w.heap.size w h := by
  obtain ⟨A, c, e0, l1, l2⟩ := own_form k
  unfold maxLen at l2
  refine ⟨by injection e0 with _ e0; rw [e0]; omega, ?_⟩
  rcases k.2 with ⟨e, _⟩ | ⟨g, cap, cur, e, k1, k2, k3, k4, k5, k6⟩
  · injection e with _ e
    exact .inl e
  · injection e with e1 e2
    exact .inr ⟨g, cur, e1, k1, (Array.getElem?_eq_some_iff.1 k2).1, k2, by rw [e2]; omega⟩
theorem IntRow.below {b e : Nat} {w w' : World} {h : Hd} (k : IntRow b e w h) (hb : Below w.heap.size w w') : IntRow b e w' h := by
  refine ⟨k.1, ?_⟩
  rcases k.2 with k | ⟨g, cur, k1, k2, k3, k4, k5⟩
  · exact .inl k
  · exact .inr ⟨g, cur, k1, k2, k3, (hb.block g (Array.getElem?_eq_some_iff.1 k4).1).trans k4, k5⟩
theorem IntRow.at {b e : Nat} {w : World} {h : Hd} (k : IntRow b e w h) (h0 : 0 < h.2.1) : ∃ (g : Nat) (cur : Array Value), h.1 = some ⟨g, 0, none⟩ ∧ b ≤ g ∧ g < e ∧ w.heap[g]? = some (.cells cur 3 (0, 0)) ∧ h.2.1 ≤ cur.size := by
  rcases k.2 with k | k
  · omega
  · exact k
theorem cell_some {w : World} {g i : Nat} {cur : Array Value} {t : TypeId} (h : w.heap[g]? = some (.cells cur t (0, 0))) (hi : i < cur.size) : ∃ u, w.cell? ⟨g, i, none⟩ = some u := by
  rw [cell_of_block h i, Array.getElem?_eq_getElem hi]
  exact ⟨_, rfl⟩
theorem CopyR.grown {b g : Nat} {w w' : World} {v : Sv} {q : Sq} (h : CopyR b w v q) (hg : w.grownBy w' (some g)) (hlt : g < b) : CopyR b w' v q :=
  ⟨h.hob.grown hg hlt, own_grown h.m hg hlt, h.bins.grown hg hlt, own_grown h.acks hg hlt, own_grown h.bl hg hlt, h.ws.grown hg hlt, h.ms.grown hg hlt⟩
theorem CopyR.below {b : Nat} {w w' : World} {v : Sv} {q : Sq} (h : CopyR b w v q) (hb : Below w.heap.size w w') : CopyR b w' v q :=
  ⟨h.hob.below hb, own_below h.m hb, h.bins.below hb, own_below h.acks hb, own_below h.bl hb, h.ws.below hb, h.ms.below hb⟩
/-- rows of a copy: their heads -/
theorem rows_heads {b : Nat} {w : World} {v : Value} {ls : Rws} (h : OwnRows 47 3 b w v ls) : ∃ hs : List Hd, w.ownsRow b 47 1 v hs.length (hs.flatMap oh) ∧ ∀ h ∈ hs, IntRow b w.heap.size w h := by
  obtain ⟨vs, h1, h2, h3⟩ := h
  have hv : ∀ u ∈ vs, hdV (toHd u) = u ∧ IntRow b w.heap.size w (toHd u) := fun u hu => by
    obtain ⟨i, hi, rfl⟩ := List.mem_iff_getElem.1 hu
    have k := h3 i _ _ (List.getElem?_eq_getElem hi) (List.getElem?_eq_getElem (by rw [← h2]; exact hi))
    obtain ⟨A, c, e, -⟩ := own_form k
    have e2 : hdV (toHd vs[i]) = vs[i] := by rw [e]; rfl
    exact ⟨e2, introw_own (h := toHd vs[i]) (by rw [e2]; exact k)⟩
  have hf : (vs.map toHd).flatMap oh = vs := by
    have : ∀ l : List Value, (∀ u ∈ l, hdV (toHd u) = u) → (l.map toHd).flatMap oh = l := by
      intro l hl
      induction l with
      | nil => rfl
      | cons a l ih =>
        rw [List.map_cons, List.flatMap_cons, ih fun u hu => hl u (List.mem_cons_of_mem _ hu)]
        show [hdV (toHd a)] ++ l = a :: l
        rw [hl a List.mem_cons_self]; rfl
    exact this vs fun u hu => (hv u hu).1
  refine ⟨vs.map toHd, ?_, fun h hh => ?_⟩
  · rw [hf, List.length_map]; exact h1
  · obtain ⟨u, hu, rfl⟩ := List.mem_map.1 hh
    exact (hv u hu).2
theorem muts_heads {b : Nat} {w : World} {v : Value} {us : List Uq} (h : OwnUs b w v us) : ∃ es : List Uv, w.ownsRow b 93 41 v es.length (es.flatMap utE) ∧ ∀ x ∈ es, IntRow b w.heap.size w x.2.1 := by
  obtain ⟨es, h1, h2, h3⟩ := h
  refine ⟨es, by rw [h2]; exact h1, fun x hx => ?_⟩
  obtain ⟨i, hi, rfl⟩ := List.mem_iff_getElem.1 hx
  have k := h3 i _ _ (List.getElem?_eq_getElem hi) (List.getElem?_eq_getElem (by rw [← h2]; exact hi))
  exact introw_own k.2.1
/-- what is kept while a copy is scribbled over: W1 the world ahead of the copy, E where the copy's own copy begins -/
structure ScI (W1 : World) (E e : Nat) (vc vd : Sv) (x : Sq) (B O : List Hd) (U : List Uv) (bc bd : Nat) (w : World) : Prop where
  bl : Below W1.heap.size W1 w
  d : CopyR E w vd x
  bo : w.ownsRow W1.heap.size 47 1 (hdV vc.bins) B.length (B.flatMap oh)
  bi : ∀ h ∈ B, IntRow W1.heap.size e w h
  oo : w.ownsRow W1.heap.size 47 1 (hdV vc.hob) O.length (O.flatMap oh)
  oi : ∀ h ∈ O, IntRow W1.heap.size e w h
  uo : w.ownsRow W1.heap.size 93 41 (hdV vc.ms) U.length (U.flatMap utE)
  ui : ∀ x ∈ U, IntRow W1.heap.size e w x.2.1
  kc : Bc 66 w bc (stL x vc)
  kd : Bc 66 w bd (stL x vd)
theorem ScI.set {W1 w : World} {E e bc bd g : Nat} {vc vd : Sv} {x : Sq} {B O : List Hd} {U : List Uv} {cur : Array Value} {T : TypeId} (h : ScI W1 E e vc vd x B O U bc bd w) (hg : w.heap[g]? = some (.cells cur T (0, 0))) (hT : T = 3 ∨ T = 25) (h1 : W1.heap.size ≤ g) (h2 : g < E) (i : Nat) (u : Value) : ScI W1 E e vc vd x B O U bc bd (w.setCell ⟨g, i, none⟩ u) := by
  have t1 : 47 ≠ T := by rcases hT with rfl | rfl <;> decide
  have t2 : 93 ≠ T := by rcases hT with rfl | rfl <;> decide
  have t3 : 66 ≠ T := by rcases hT with rfl | rfl <;> decide
  exact ⟨h.bl.setCell (p := ⟨g, i, none⟩) h1 u, h.d.grown (grown_setSa w g i u) h2, own_keep h.bo hg t1 i u, fun k hk => (h.bi k hk).set g i u, own_keep h.oo hg t1 i u, fun k hk => (h.oi k hk).set g i u, own_keep h.uo hg t2 i u, fun k hk => (h.ui k hk).set g i u, bc_type h.kc hg t3 i u, bc_type h.kd hg t3 i u⟩
theorem New_n (p : Pq) (q : Sq) (ob rg pg : Hd) (hq : sNew p = q) (hr : pRight p = true) (hs : p.ro < 18446744073709551616) (w : World) (hP : PlanR w (hdV ob) (hdV rg) (hdV pg) (hdV hd0) p) (hE : EnvT w) :
    Calls Tryz.prog 13 #[.agg (plLSa p (hdV ob) (hdV rg) (hdV pg) (hdV hd0)).toArray] w fun e w' => ∃ v : Sv, e = .returned (.agg (stL q v).toArray) ∧ NewR (w.heap.size + 2) w' v q ∧ Below w.heap.size w w' := by
  subst hq; exact new_n p ob rg pg hd0 hs hr w hP hE
theorem turned_xq (G wh at_ to_ : Nat) (q r : Sq) (v : Sv) (hq : turnS wh at_ to_ q = r) (w : World) (hG : G ≤ w.heap.size) (hR : StR (er G w) v q) (hS : SmS q) (h : wh < 256 ∧ at_ < 256 ∧ to_ < 256) :
    Calls Tryz.prog 23 #[.agg (tnL wh at_ to_).toArray, .agg (stL q v).toArray] w fun e w' => ∃ v' : Sv, e = .returned (.agg (stL r v').toArray) ∧ StR (er G w') v' r ∧ Below w.heap.size w w' := by
  subst hq; exact turned_x G wh at_ to_ q v w hG hR hS h.1 h.2.1 h.2.2
theorem turnS_m {wh at_ to_ : Nat} {q : Sq} (h : 0 < q.m.length) : 0 < (turnS wh at_ to_ q).m.length := by
  have hk : wh % 16 = 0 ∨ wh % 16 = 1 ∨ wh % 16 = 2 ∨ wh % 16 = 3 ∨ wh % 16 = 4 ∨ wh % 16 = 5 ∨ wh % 16 = 6 ∨ wh % 16 = 7 ∨ wh % 16 = 8 ∨ wh % 16 = 9 ∨ wh % 16 = 10 ∨ wh % 16 = 11 ∨ wh % 16 = 12 ∨ wh % 16 = 13 ∨ wh % 16 = 14 ∨ wh % 16 = 15 := by omega
  unfold turnS
  rcases hk with hk | hk | hk | hk | hk | hk | hk | hk | hk | hk | hk | hk | hk | hk | hk | hk <;> rw [hk] <;> first | exact h | exact Nat.succ_pos _
theorem new_m_pos {p : Pq} (h : PRt p) (hs : p.ro < 18446744073709551616) : 0 < (sNew p).m.length := by
  rw [new_right (pRight_iff.2 h)]
  show 0 < (newM _ _ _ _ _).length
  rw [(newM_all (cells_new h hs)).1]; omega
/-- the row of cells of a copy -/
theorem cells_row {b n : Nat} {w : World} {h : Hd} {xs : List Value} (k : w.ownsRow b 25 1 (hdV h) n xs) (hn : 0 < n) : ∃ (g : Nat) (cur : Array Value), h.1 = some ⟨g, 0, none⟩ ∧ h.2.1 = n ∧ b ≤ g ∧ g < w.heap.size ∧ w.heap[g]? = some (.cells cur 25 (0, 0)) ∧ n ≤ cur.size := by
  rcases k.2 with ⟨_, e⟩ | ⟨g, cap, cur, e, k1, k2, k3, k4, k5, k6⟩
  · omega
  · injection e with e1 e2
    exact ⟨g, cur, e1, e2, k1, (Array.getElem?_eq_some_iff.1 k2).1, k2, by omega⟩
section
variable {P : Program}
/-- a box made, in a region that draws -/
theorem step_alloc (w : World) {ops : Array Oper} {op : Oper} {a : Act} {K : Act → World → Prop} {Q : Exit → Act → World → Prop} {E : Prop} (hg : op.guard = none) (ty : TypeId) (hop : op.op = Op.alloc ty) (z : Value) (cs : List Value)
    (hz : (zeroValue ty).run P w = .ok z w) (hc : z.cells = cs.toArray)
    (hK : ∀ w' Bo, Bo = w.heap.size → Bc ty w' Bo cs → Below w.heap.size w w' → K (a.put op.dst (.pointer (some ⟨Bo, 0, none⟩))) w') :
    if Region.wanted op (yielded ops a.tmps) = true then Oper.wp P op a w K Q else E := by
  rw [if_pos (show Region.wanted op (yielded ops a.tmps) = true by simp [Region.wanted, hg])]
  have h1 := hK (w.alloc (.cells cs.toArray ty)) _ rfl (bc_new w cs ty) (balS w _)
  unfold Oper.wp
  simp [execOp, hop, Instr.alloc, hz, newVar, hc, Result.andThen]
  exact h1
end
end Go.Proofs.YtdmbcjckgfjcaaaGreatDoor
