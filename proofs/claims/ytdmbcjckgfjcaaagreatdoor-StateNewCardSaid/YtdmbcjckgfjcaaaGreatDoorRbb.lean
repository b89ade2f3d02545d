/- Layer state: machines compared. Written by tools/genstate7.py. -/
import Derived.Test.YtdmbcjckgfjcaaaGreatDoorRba
namespace Go.Proofs.YtdmbcjckgfjcaaaGreatDoor
open Go.RowKit Go.Joins Go.Shelf
section
variable {P : Program} {a : Act} {o : Oper} {w : World} {ty t : TypeId} {x : Operand} {B i : Nat} {l m : List Value} {v : Value} {dd : TypeDesc}
/-- a cell of a known block loaded, in a region that draws -/
theorem ex_load1 (ho : o.op = .load ty x) (hx : a.eval x = .pointer (some ⟨B, i, none⟩)) (hk : Bc t w B l) (hu : P.underlying ty = some dd) (hd : (match dd with | .struct _ | .array _ _ => true | _ => false) = false) (hv : l[i]? = some v) : (execOp a.eval o).run P w = .ok (.value v) w := by
  have hc : w.cell? ⟨B, i, none⟩ = some v := (hk.cell i).trans hv
  have hagg : (isAgg ty).run P w = .ok false w := by
    unfold isAgg
    rw [Sem.run_bind, run_underlying hu w]
    cases dd <;> simp_all
  have hl : (load ⟨B, i, none⟩).run P w = .ok v w := by simp [hc]
  unfold execOp
  simp only [ho, hx, Instr.loadAt, Instr.sureAddr, loadVar, Sem.run_bind, Sem.run_pure, Result.andThen_ok, hagg, Bool.false_eq_true, if_false, hl]
theorem ex_loadk (ho : o.op = .load ty x) (hx : a.eval x = .pointer (some ⟨B, i, none⟩)) (hk : Bc t w B l) (hu : P.underlying ty = some dd) (hd : (match dd with | .struct _ | .array _ _ => true | _ => false) = true) (hi : (P.info? ty).map (·.size) = some m.length) (hm : (l.drop i).take m.length = m) : (execOp a.eval o).run P w = .ok (.value (.agg m.toArray)) w := by
  have hl := run_loadVar_seg (P := P) w B i ty m dd (fun j v hv => bc_seg hk i hm j v hv) hu hd hi
  unfold execOp
  simp only [ho, hx, Instr.loadAt, Instr.sureAddr, Sem.run_bind, Sem.run_pure, Result.andThen_ok, hl]
end
theorem Equal_ints_c (va vb : Value) (a b : List Int) (w : World) (ha : Ints w va a) (hb : Ints w vb b) (r : Bool) (hr : decide (a = b) = r) :
    Calls Tryz.prog 75 #[va, vb] w fun e w' => e = .returned (.bool r) ∧ Below w.heap.size w w' := by
  subst hr; exact Equal_intsHp va vb a b w ha hb
set_option maxRecDepth 100000 in
set_option maxHeartbeats 16000000 in
theorem smW_0 (q q_ : Wq) (b b_ : Hd) (w w1 : World) (HE : Hid ((w.alloc (.cells ((wkL q (hdV b))).toArray 102)).alloc (.cells ((wkL q_ (hdV b_))).toArray 102) = w1)) (K1 : Hid (Bc 102 w1 w.heap.size (wkL q (hdV b)))) (K2 : Hid (Bc 102 w1 (w.heap.size + 1) (wkL q_ (hdV b_)))) (HB : Hid (Below w.heap.size w w1)) (_R1 : Hid (Ints w (hdV b) q.batch)) (_R2 : Hid (Ints w (hdV b_) q_.batch)) (Q0 : Hid (decide (PlW q q_) = false)) :
    Calls Tryz.prog 78 #[.agg ((wkL q (hdV b))).toArray, .agg ((wkL q_ (hdV b_))).toArray] w fun x w' => x = .returned (.bool false) ∧ Below w.heap.size w w' := by
  have HBC := hide (show Below w1.heap.size w1 w1.drew from ⟨rfl, rfl, rfl, Nat.le_refl _, fun _ _ => rfl⟩)
  have hq0 := eql_pw q q_
  rw [Q0.out] at hq0
  go_enter Tryz.func78, Tryz.ntmps78
  go_upto_region 1 with (fail)
  rw [HE.out]
  refine wp_region_held_drew (S := fun w_ => Bc 102 w_ w.heap.size (wkL q (hdV b)) ∧ Bc 102 w_ (w.heap.size + 1) (wkL q_ (hdV b_))) (by kernel_rfl) ?_ (fun hHeld => ?_)
  · exact (by exact ⟨K1.out.below HBC.out, K2.out.below HBC.out⟩)
  refine tk 0 (hy := fun w_ h_ => ex_loadk (m := wkL q (hdV b)) rfl rfl h_.1 Tryz.underlying102 rfl (by kernel_rfl) rfl) (h := ?_)
  refine tk 2 (hy := fun w_ h_ => ex_loadk (m := wkL q_ (hdV b_)) rfl rfl h_.2 Tryz.underlying102 rfl (by kernel_rfl) rfl) (h := ?_)
  refine wpAnyH_ready (rs := [1]) (by kernel_rfl) (by simp) ?_
  refine AllReadyH.cons rfl (fun K hK => ?_) AllReadyH.nil
  go_simp
  go_at_call 130
  (with_reducible refine (plW_any q b _).mono ?_)
  rintro x w4 ⟨rfl, hb⟩
  have HBC := hide (bcall HBC.out hb)
  clear hb
  (try go_simp)
  refine hK.out _ _ (by exact ⟨K1.out.below HBC.out, K2.out.below HBC.out⟩) (fun hHeld => ?_)
  clear hK
  (try simp only [Act.put, List.setIfInBounds_toArray, List.set_cons_zero, List.set_cons_succ])
  refine wpAnyH_ready (rs := [3]) (by kernel_rfl) (by simp) ?_
  refine AllReadyH.cons rfl (fun K hK => ?_) AllReadyH.nil
  go_simp
  go_at_call 130
  (with_reducible refine (plW_any q_ b_ _).mono ?_)
  rintro x w4 ⟨rfl, hb⟩
  have HBC := hide (bcall HBC.out hb)
  clear hb
  (try go_simp)
  refine hK.out _ _ (by exact ⟨K1.out.below HBC.out, K2.out.below HBC.out⟩) (fun hHeld => ?_)
  clear hK
  (try simp only [Act.put, List.setIfInBounds_toArray, List.set_cons_zero, List.set_cons_succ])
  refine tk 4 (h := ?_)
  refine tk 5 (h := ?_)
  refine tu 6 (h := ?_)
  refine tu 7 (h := ?_)
  refine tu 8 (h := ?_)
  refine tu 9 (h := ?_)
  refine tu 10 (h := ?_)
  refine tk 11 (h := ?_)
  refine tk 12 (h := ?_)
  refine wpAnyH_done (by kernel_rfl) ?_ _
  go_wp2
  go_ret
  exact ⟨rfl, bcall HB.out HBC.out⟩
set_option maxRecDepth 100000 in
set_option maxHeartbeats 16000000 in
theorem smW_1 (q q_ : Wq) (b b_ : Hd) (w w1 : World) (HE : Hid ((w.alloc (.cells ((wkL q (hdV b))).toArray 102)).alloc (.cells ((wkL q_ (hdV b_))).toArray 102) = w1)) (K1 : Hid (Bc 102 w1 w.heap.size (wkL q (hdV b)))) (K2 : Hid (Bc 102 w1 (w.heap.size + 1) (wkL q_ (hdV b_)))) (HB : Hid (Below w.heap.size w w1)) (R1 : Hid (Ints w (hdV b) q.batch)) (R2 : Hid (Ints w (hdV b_) q_.batch)) (Q0 : Hid (decide (PlW q q_) = true)) (Q1 : Hid (decide (q.batch = q_.batch) = false)) :
    Calls Tryz.prog 78 #[.agg ((wkL q (hdV b))).toArray, .agg ((wkL q_ (hdV b_))).toArray] w fun x w' => x = .returned (.bool false) ∧ Below w.heap.size w w' := by
  have HBC := hide (show Below w1.heap.size w1 w1.drew from ⟨rfl, rfl, rfl, Nat.le_refl _, fun _ _ => rfl⟩)
  have hq0 := eql_pw q q_
  rw [Q0.out] at hq0
  go_enter Tryz.func78, Tryz.ntmps78
  go_upto_region 1 with (fail)
  rw [HE.out]
  refine wp_region_held_drew (S := fun w_ => Bc 102 w_ w.heap.size (wkL q (hdV b)) ∧ Bc 102 w_ (w.heap.size + 1) (wkL q_ (hdV b_))) (by kernel_rfl) ?_ (fun hHeld => ?_)
  · exact (by exact ⟨K1.out.below HBC.out, K2.out.below HBC.out⟩)
  refine tk 0 (hy := fun w_ h_ => ex_loadk (m := wkL q (hdV b)) rfl rfl h_.1 Tryz.underlying102 rfl (by kernel_rfl) rfl) (h := ?_)
  refine tk 2 (hy := fun w_ h_ => ex_loadk (m := wkL q_ (hdV b_)) rfl rfl h_.2 Tryz.underlying102 rfl (by kernel_rfl) rfl) (h := ?_)
  refine wpAnyH_ready (rs := [1]) (by kernel_rfl) (by simp) ?_
  refine AllReadyH.cons rfl (fun K hK => ?_) AllReadyH.nil
  go_simp
  go_at_call 130
  (with_reducible refine (plW_any q b _).mono ?_)
  rintro x w4 ⟨rfl, hb⟩
  have HBC := hide (bcall HBC.out hb)
  clear hb
  (try go_simp)
  refine hK.out _ _ (by exact ⟨K1.out.below HBC.out, K2.out.below HBC.out⟩) (fun hHeld => ?_)
  clear hK
  (try simp only [Act.put, List.setIfInBounds_toArray, List.set_cons_zero, List.set_cons_succ])
  refine wpAnyH_ready (rs := [3]) (by kernel_rfl) (by simp) ?_
  refine AllReadyH.cons rfl (fun K hK => ?_) AllReadyH.nil
  go_simp
  go_at_call 130
  (with_reducible refine (plW_any q_ b_ _).mono ?_)
  rintro x w4 ⟨rfl, hb⟩
  have HBC := hide (bcall HBC.out hb)
  clear hb
  (try go_simp)
  refine hK.out _ _ (by exact ⟨K1.out.below HBC.out, K2.out.below HBC.out⟩) (fun hHeld => ?_)
  clear hK
  (try simp only [Act.put, List.setIfInBounds_toArray, List.set_cons_zero, List.set_cons_succ])
  refine tk 4 (h := ?_)
  refine tk 5 (h := ?_)
  refine tk 6 (h := ?_)
  refine tk 7 (hy := fun w_ h_ => ex_load1 rfl rfl h_.1 Tryz.underlying47 rfl rfl) (h := ?_)
  refine tk 8 (h := ?_)
  refine tk 9 (hy := fun w_ h_ => ex_load1 rfl rfl h_.2 Tryz.underlying47 rfl rfl) (h := ?_)
  refine wpAnyH_ready (rs := [10]) (by kernel_rfl) (by simp) ?_
  refine AllReadyH.cons rfl (fun K hK => ?_) AllReadyH.nil
  go_simp
  go_at_call 75
  (with_reducible refine (Equal_ints_c _ _ q.batch q_.batch _ ((R1.out.below HB.out).below HBC.out) ((R2.out.below HB.out).below HBC.out) _ Q1.out).mono ?_)
  rintro x w4 ⟨rfl, hb⟩
  have HBC := hide (bcall HBC.out hb)
  clear hb
  (try go_simp)
  refine hK.out _ _ (by exact ⟨K1.out.below HBC.out, K2.out.below HBC.out⟩) (fun hHeld => ?_)
  clear hK
  (try simp only [Act.put, List.setIfInBounds_toArray, List.set_cons_zero, List.set_cons_succ])
  refine tk 11 (h := ?_)
  refine tk 12 (h := ?_)
  refine wpAnyH_done (by kernel_rfl) ?_ _
  go_wp2
  go_ret
  exact ⟨rfl, bcall HB.out HBC.out⟩
set_option maxRecDepth 100000 in
set_option maxHeartbeats 16000000 in
theorem smW_2 (q q_ : Wq) (b b_ : Hd) (w w1 : World) (HE : Hid ((w.alloc (.cells ((wkL q (hdV b))).toArray 102)).alloc (.cells ((wkL q_ (hdV b_))).toArray 102) = w1)) (K1 : Hid (Bc 102 w1 w.heap.size (wkL q (hdV b)))) (K2 : Hid (Bc 102 w1 (w.heap.size + 1) (wkL q_ (hdV b_)))) (HB : Hid (Below w.heap.size w w1)) (R1 : Hid (Ints w (hdV b) q.batch)) (R2 : Hid (Ints w (hdV b_) q_.batch)) (Q0 : Hid (decide (PlW q q_) = true)) (Q1 : Hid (decide (q.batch = q_.batch) = true)) :
    Calls Tryz.prog 78 #[.agg ((wkL q (hdV b))).toArray, .agg ((wkL q_ (hdV b_))).toArray] w fun x w' => x = .returned (.bool true) ∧ Below w.heap.size w w' := by
  have HBC := hide (show Below w1.heap.size w1 w1.drew from ⟨rfl, rfl, rfl, Nat.le_refl _, fun _ _ => rfl⟩)
  have hq0 := eql_pw q q_
  rw [Q0.out] at hq0
  go_enter Tryz.func78, Tryz.ntmps78
  go_upto_region 1 with (fail)
  rw [HE.out]
  refine wp_region_held_drew (S := fun w_ => Bc 102 w_ w.heap.size (wkL q (hdV b)) ∧ Bc 102 w_ (w.heap.size + 1) (wkL q_ (hdV b_))) (by kernel_rfl) ?_ (fun hHeld => ?_)
  · exact (by exact ⟨K1.out.below HBC.out, K2.out.below HBC.out⟩)
  refine tk 0 (hy := fun w_ h_ => ex_loadk (m := wkL q (hdV b)) rfl rfl h_.1 Tryz.underlying102 rfl (by kernel_rfl) rfl) (h := ?_)
  refine tk 2 (hy := fun w_ h_ => ex_loadk (m := wkL q_ (hdV b_)) rfl rfl h_.2 Tryz.underlying102 rfl (by kernel_rfl) rfl) (h := ?_)
  refine wpAnyH_ready (rs := [1]) (by kernel_rfl) (by simp) ?_
  refine AllReadyH.cons rfl (fun K hK => ?_) AllReadyH.nil
  go_simp
  go_at_call 130
  (with_reducible refine (plW_any q b _).mono ?_)
  rintro x w4 ⟨rfl, hb⟩
  have HBC := hide (bcall HBC.out hb)
  clear hb
  (try go_simp)
  refine hK.out _ _ (by exact ⟨K1.out.below HBC.out, K2.out.below HBC.out⟩) (fun hHeld => ?_)
  clear hK
  (try simp only [Act.put, List.setIfInBounds_toArray, List.set_cons_zero, List.set_cons_succ])
  refine wpAnyH_ready (rs := [3]) (by kernel_rfl) (by simp) ?_
  refine AllReadyH.cons rfl (fun K hK => ?_) AllReadyH.nil
  go_simp
  go_at_call 130
  (with_reducible refine (plW_any q_ b_ _).mono ?_)
  rintro x w4 ⟨rfl, hb⟩
  have HBC := hide (bcall HBC.out hb)
  clear hb
  (try go_simp)
  refine hK.out _ _ (by exact ⟨K1.out.below HBC.out, K2.out.below HBC.out⟩) (fun hHeld => ?_)
  clear hK
  (try simp only [Act.put, List.setIfInBounds_toArray, List.set_cons_zero, List.set_cons_succ])
  refine tk 4 (h := ?_)
  refine tk 5 (h := ?_)
  refine tk 6 (h := ?_)
  refine tk 7 (hy := fun w_ h_ => ex_load1 rfl rfl h_.1 Tryz.underlying47 rfl rfl) (h := ?_)
  refine tk 8 (h := ?_)
  refine tk 9 (hy := fun w_ h_ => ex_load1 rfl rfl h_.2 Tryz.underlying47 rfl rfl) (h := ?_)
  refine wpAnyH_ready (rs := [10]) (by kernel_rfl) (by simp) ?_
  refine AllReadyH.cons rfl (fun K hK => ?_) AllReadyH.nil
  go_simp
  go_at_call 75
  (with_reducible refine (Equal_ints_c _ _ q.batch q_.batch _ ((R1.out.below HB.out).below HBC.out) ((R2.out.below HB.out).below HBC.out) _ Q1.out).mono ?_)
  rintro x w4 ⟨rfl, hb⟩
  have HBC := hide (bcall HBC.out hb)
  clear hb
  (try go_simp)
  refine hK.out _ _ (by exact ⟨K1.out.below HBC.out, K2.out.below HBC.out⟩) (fun hHeld => ?_)
  clear hK
  (try simp only [Act.put, List.setIfInBounds_toArray, List.set_cons_zero, List.set_cons_succ])
  refine tk 11 (h := ?_)
  refine tk 12 (h := ?_)
  refine wpAnyH_done (by kernel_rfl) ?_ _
  go_wp2
  go_ret
  exact ⟨rfl, bcall HB.out HBC.out⟩
theorem wq_eq (q q_ : Wq) : decide (q = q_) = (decide (PlW q q_) && decide (q.batch = q_.batch)) := by
  cases q; cases q_
  rw [Bool.eq_iff_iff, Bool.and_eq_true, decide_eq_true_iff, decide_eq_true_iff, decide_eq_true_iff]
  unfold PlW
  simp only [Wq.mk.injEq]
  constructor
  · rintro ⟨h1, h2, h3, h4, h5, h6, h7, h8, h9⟩; exact ⟨⟨h1, h2, h3, h4, h5, h7, h8, h9⟩, h6⟩
  · rintro ⟨⟨h1, h2, h3, h4, h5, h7, h8, h9⟩, h6⟩; exact ⟨h1, h2, h3, h4, h5, h6, h7, h8, h9⟩
theorem smW_any (q q_ : Wq) (b b_ : Hd) (w : World) (h : Ints w (hdV b) q.batch) (h_ : Ints w (hdV b_) q_.batch) :
    Calls Tryz.prog 78 #[.agg (wkE (q, b)).toArray, .agg (wkE (q_, b_)).toArray] w fun x w' => x = .returned (.bool (decide (q = q_))) ∧ Below w.heap.size w w' := by
  obtain ⟨w1, e1, k1, k2, hb1, -⟩ := two_box w (wkL q (hdV b)) (wkL q_ (hdV b_)) 102 102
  rw [wq_eq]
  cases d0 : decide (PlW q q_)
  · exact smW_0 q q_ b b_ w w1 e1 k1 k2 hb1 h h_ d0
  · cases d1 : decide (q.batch = q_.batch)
    · exact smW_1 q q_ b b_ w w1 e1 k1 k2 hb1 h h_ d0 d1
    · exact smW_2 q q_ b b_ w w1 e1 k1 k2 hb1 h h_ d0 d1
set_option maxRecDepth 100000 in
set_option maxHeartbeats 16000000 in
theorem smU_0 (q q_ : Uq) (r b t r_ b_ t_ : Hd) (w w1 : World) (HE : Hid ((w.alloc (.cells ((utL q (hdV r) (hdV b) (hdV t))).toArray 93)).alloc (.cells ((utL q_ (hdV r_) (hdV b_) (hdV t_))).toArray 93) = w1)) (K1 : Hid (Bc 93 w1 w.heap.size (utL q (hdV r) (hdV b) (hdV t)))) (K2 : Hid (Bc 93 w1 (w.heap.size + 1) (utL q_ (hdV r_) (hdV b_) (hdV t_)))) (HB : Hid (Below w.heap.size w w1)) (_R10 : Hid (Ints w (hdV r) q.regs)) (_R20 : Hid (Ints w (hdV r_) q_.regs)) (_R11 : Hid (Ints w (hdV b) q.buf)) (_R21 : Hid (Ints w (hdV b_) q_.buf)) (_R12 : Hid (Ints w (hdV t) q.batch)) (_R22 : Hid (Ints w (hdV t_) q_.batch)) (Q0 : Hid (decide (PlU q q_) = false)) :
    Calls Tryz.prog 80 #[.agg ((utL q (hdV r) (hdV b) (hdV t))).toArray, .agg ((utL q_ (hdV r_) (hdV b_) (hdV t_))).toArray] w fun x w' => x = .returned (.bool false) ∧ Below w.heap.size w w' := by
  have HBC := hide (show Below w1.heap.size w1 w1.drew from ⟨rfl, rfl, rfl, Nat.le_refl _, fun _ _ => rfl⟩)
  have hq0 := eql_pu q q_
  rw [Q0.out] at hq0
  go_enter Tryz.func80, Tryz.ntmps80
  go_upto_region 1 with (fail)
  rw [HE.out]
  refine wp_region_held_drew (S := fun w_ => Bc 93 w_ w.heap.size (utL q (hdV r) (hdV b) (hdV t)) ∧ Bc 93 w_ (w.heap.size + 1) (utL q_ (hdV r_) (hdV b_) (hdV t_))) (by kernel_rfl) ?_ (fun hHeld => ?_)
  · exact (by exact ⟨K1.out.below HBC.out, K2.out.below HBC.out⟩)
  refine tk 0 (hy := fun w_ h_ => ex_loadk (m := (utL q (hdV r) (hdV b) (hdV t))) rfl rfl h_.1 Tryz.underlying93 rfl (by kernel_rfl) rfl) (h := ?_)
  refine tk 2 (hy := fun w_ h_ => ex_loadk (m := (utL q_ (hdV r_) (hdV b_) (hdV t_))) rfl rfl h_.2 Tryz.underlying93 rfl (by kernel_rfl) rfl) (h := ?_)
  refine wpAnyH_ready (rs := [1]) (by kernel_rfl) (by simp) ?_
  refine AllReadyH.cons rfl (fun K hK => ?_) AllReadyH.nil
  go_simp
  go_at_call 131
  (with_reducible refine (plU_any q r b t _).mono ?_)
  rintro x w4 ⟨rfl, hb⟩
  have HBC := hide (bcall HBC.out hb)
  clear hb
  (try go_simp)
  refine hK.out _ _ (by exact ⟨K1.out.below HBC.out, K2.out.below HBC.out⟩) (fun hHeld => ?_)
  clear hK
  (try simp only [Act.put, List.setIfInBounds_toArray, List.set_cons_zero, List.set_cons_succ])
  refine wpAnyH_ready (rs := [3]) (by kernel_rfl) (by simp) ?_
  refine AllReadyH.cons rfl (fun K hK => ?_) AllReadyH.nil
  go_simp
  go_at_call 131
  (with_reducible refine (plU_any q_ r_ b_ t_ _).mono ?_)
  rintro x w4 ⟨rfl, hb⟩
  have HBC := hide (bcall HBC.out hb)
  clear hb
  (try go_simp)
  refine hK.out _ _ (by exact ⟨K1.out.below HBC.out, K2.out.below HBC.out⟩) (fun hHeld => ?_)
  clear hK
  (try simp only [Act.put, List.setIfInBounds_toArray, List.set_cons_zero, List.set_cons_succ])
  refine tk 4 (h := ?_)
  refine tk 5 (h := ?_)
  refine tu 6 (h := ?_)
  refine tu 7 (h := ?_)
  refine tu 8 (h := ?_)
  refine tu 9 (h := ?_)
  refine tu 10 (h := ?_)
  refine tk 11 (h := ?_)
  refine tk 12 (h := ?_)
  refine tu 13 (h := ?_)
  refine tu 14 (h := ?_)
  refine tu 15 (h := ?_)
  refine tu 16 (h := ?_)
  refine tu 17 (h := ?_)
  refine tk 18 (h := ?_)
  refine tk 19 (h := ?_)
  refine tu 20 (h := ?_)
  refine tu 21 (h := ?_)
  refine tu 22 (h := ?_)
  refine tu 23 (h := ?_)
  refine tu 24 (h := ?_)
  refine tk 25 (h := ?_)
  refine tk 26 (h := ?_)
  refine wpAnyH_done (by kernel_rfl) ?_ _
  go_wp2
  go_ret
  exact ⟨rfl, bcall HB.out HBC.out⟩
set_option maxRecDepth 100000 in
set_option maxHeartbeats 16000000 in
theorem smU_1 (q q_ : Uq) (r b t r_ b_ t_ : Hd) (w w1 : World) (HE : Hid ((w.alloc (.cells ((utL q (hdV r) (hdV b) (hdV t))).toArray 93)).alloc (.cells ((utL q_ (hdV r_) (hdV b_) (hdV t_))).toArray 93) = w1)) (K1 : Hid (Bc 93 w1 w.heap.size (utL q (hdV r) (hdV b) (hdV t)))) (K2 : Hid (Bc 93 w1 (w.heap.size + 1) (utL q_ (hdV r_) (hdV b_) (hdV t_)))) (HB : Hid (Below w.heap.size w w1)) (R10 : Hid (Ints w (hdV r) q.regs)) (R20 : Hid (Ints w (hdV r_) q_.regs)) (_R11 : Hid (Ints w (hdV b) q.buf)) (_R21 : Hid (Ints w (hdV b_) q_.buf)) (_R12 : Hid (Ints w (hdV t) q.batch)) (_R22 : Hid (Ints w (hdV t_) q_.batch)) (Q0 : Hid (decide (PlU q q_) = true)) (Q1 : Hid (decide (q.regs = q_.regs) = false)) :
    Calls Tryz.prog 80 #[.agg ((utL q (hdV r) (hdV b) (hdV t))).toArray, .agg ((utL q_ (hdV r_) (hdV b_) (hdV t_))).toArray] w fun x w' => x = .returned (.bool false) ∧ Below w.heap.size w w' := by
  have HBC := hide (show Below w1.heap.size w1 w1.drew from ⟨rfl, rfl, rfl, Nat.le_refl _, fun _ _ => rfl⟩)
  have hq0 := eql_pu q q_
  rw [Q0.out] at hq0
  go_enter Tryz.func80, Tryz.ntmps80
  go_upto_region 1 with (fail)
  rw [HE.out]
  refine wp_region_held_drew (S := fun w_ => Bc 93 w_ w.heap.size (utL q (hdV r) (hdV b) (hdV t)) ∧ Bc 93 w_ (w.heap.size + 1) (utL q_ (hdV r_) (hdV b_) (hdV t_))) (by kernel_rfl) ?_ (fun hHeld => ?_)
  · exact (by exact ⟨K1.out.below HBC.out, K2.out.below HBC.out⟩)
  refine tk 0 (hy := fun w_ h_ => ex_loadk (m := (utL q (hdV r) (hdV b) (hdV t))) rfl rfl h_.1 Tryz.underlying93 rfl (by kernel_rfl) rfl) (h := ?_)
  refine tk 2 (hy := fun w_ h_ => ex_loadk (m := (utL q_ (hdV r_) (hdV b_) (hdV t_))) rfl rfl h_.2 Tryz.underlying93 rfl (by kernel_rfl) rfl) (h := ?_)
  refine wpAnyH_ready (rs := [1]) (by kernel_rfl) (by simp) ?_
  refine AllReadyH.cons rfl (fun K hK => ?_) AllReadyH.nil
  go_simp
  go_at_call 131
  (with_reducible refine (plU_any q r b t _).mono ?_)
  rintro x w4 ⟨rfl, hb⟩
  have HBC := hide (bcall HBC.out hb)
  clear hb
  (try go_simp)
  refine hK.out _ _ (by exact ⟨K1.out.below HBC.out, K2.out.below HBC.out⟩) (fun hHeld => ?_)
  clear hK
  (try simp only [Act.put, List.setIfInBounds_toArray, List.set_cons_zero, List.set_cons_succ])
  refine wpAnyH_ready (rs := [3]) (by kernel_rfl) (by simp) ?_
  refine AllReadyH.cons rfl (fun K hK => ?_) AllReadyH.nil
  go_simp
  go_at_call 131
  (with_reducible refine (plU_any q_ r_ b_ t_ _).mono ?_)
  rintro x w4 ⟨rfl, hb⟩
  have HBC := hide (bcall HBC.out hb)
  clear hb
  (try go_simp)
  refine hK.out _ _ (by exact ⟨K1.out.below HBC.out, K2.out.below HBC.out⟩) (fun hHeld => ?_)
  clear hK
  (try simp only [Act.put, List.setIfInBounds_toArray, List.set_cons_zero, List.set_cons_succ])
  refine tk 4 (h := ?_)
  refine tk 5 (h := ?_)
  refine tk 6 (h := ?_)
  refine tk 7 (hy := fun w_ h_ => ex_load1 rfl rfl h_.1 Tryz.underlying47 rfl rfl) (h := ?_)
  refine tk 8 (h := ?_)
  refine tk 9 (hy := fun w_ h_ => ex_load1 rfl rfl h_.2 Tryz.underlying47 rfl rfl) (h := ?_)
  refine wpAnyH_ready (rs := [10]) (by kernel_rfl) (by simp) ?_
  refine AllReadyH.cons rfl (fun K hK => ?_) AllReadyH.nil
  go_simp
  go_at_call 75
  (with_reducible refine (Equal_ints_c _ _ q.regs q_.regs _ ((R10.out.below HB.out).below HBC.out) ((R20.out.below HB.out).below HBC.out) _ Q1.out).mono ?_)
  rintro x w4 ⟨rfl, hb⟩
  have HBC := hide (bcall HBC.out hb)
  clear hb
  (try go_simp)
  refine hK.out _ _ (by exact ⟨K1.out.below HBC.out, K2.out.below HBC.out⟩) (fun hHeld => ?_)
  clear hK
  (try simp only [Act.put, List.setIfInBounds_toArray, List.set_cons_zero, List.set_cons_succ])
  refine tk 11 (h := ?_)
  refine tk 12 (h := ?_)
  refine tu 13 (h := ?_)
  refine tu 14 (h := ?_)
  refine tu 15 (h := ?_)
  refine tu 16 (h := ?_)
  refine tu 17 (h := ?_)
  refine tk 18 (h := ?_)
  refine tk 19 (h := ?_)
  refine tu 20 (h := ?_)
  refine tu 21 (h := ?_)
  refine tu 22 (h := ?_)
  refine tu 23 (h := ?_)
  refine tu 24 (h := ?_)
  refine tk 25 (h := ?_)
  refine tk 26 (h := ?_)
  refine wpAnyH_done (by kernel_rfl) ?_ _
  go_wp2
  go_ret
  exact ⟨rfl, bcall HB.out HBC.out⟩
set_option maxRecDepth 100000 in
set_option maxHeartbeats 16000000 in
theorem smU_2 (q q_ : Uq) (r b t r_ b_ t_ : Hd) (w w1 : World) (HE : Hid ((w.alloc (.cells ((utL q (hdV r) (hdV b) (hdV t))).toArray 93)).alloc (.cells ((utL q_ (hdV r_) (hdV b_) (hdV t_))).toArray 93) = w1)) (K1 : Hid (Bc 93 w1 w.heap.size (utL q (hdV r) (hdV b) (hdV t)))) (K2 : Hid (Bc 93 w1 (w.heap.size + 1) (utL q_ (hdV r_) (hdV b_) (hdV t_)))) (HB : Hid (Below w.heap.size w w1)) (R10 : Hid (Ints w (hdV r) q.regs)) (R20 : Hid (Ints w (hdV r_) q_.regs)) (R11 : Hid (Ints w (hdV b) q.buf)) (R21 : Hid (Ints w (hdV b_) q_.buf)) (_R12 : Hid (Ints w (hdV t) q.batch)) (_R22 : Hid (Ints w (hdV t_) q_.batch)) (Q0 : Hid (decide (PlU q q_) = true)) (Q1 : Hid (decide (q.regs = q_.regs) = true)) (Q2 : Hid (decide (q.buf = q_.buf) = false)) :
    Calls Tryz.prog 80 #[.agg ((utL q (hdV r) (hdV b) (hdV t))).toArray, .agg ((utL q_ (hdV r_) (hdV b_) (hdV t_))).toArray] w fun x w' => x = .returned (.bool false) ∧ Below w.heap.size w w' := by
  have HBC := hide (show Below w1.heap.size w1 w1.drew from ⟨rfl, rfl, rfl, Nat.le_refl _, fun _ _ => rfl⟩)
  have hq0 := eql_pu q q_
  rw [Q0.out] at hq0
  go_enter Tryz.func80, Tryz.ntmps80
  go_upto_region 1 with (fail)
  rw [HE.out]
  refine wp_region_held_drew (S := fun w_ => Bc 93 w_ w.heap.size (utL q (hdV r) (hdV b) (hdV t)) ∧ Bc 93 w_ (w.heap.size + 1) (utL q_ (hdV r_) (hdV b_) (hdV t_))) (by kernel_rfl) ?_ (fun hHeld => ?_)
  · exact (by exact ⟨K1.out.below HBC.out, K2.out.below HBC.out⟩)
  refine tk 0 (hy := fun w_ h_ => ex_loadk (m := (utL q (hdV r) (hdV b) (hdV t))) rfl rfl h_.1 Tryz.underlying93 rfl (by kernel_rfl) rfl) (h := ?_)
  refine tk 2 (hy := fun w_ h_ => ex_loadk (m := (utL q_ (hdV r_) (hdV b_) (hdV t_))) rfl rfl h_.2 Tryz.underlying93 rfl (by kernel_rfl) rfl) (h := ?_)
  refine wpAnyH_ready (rs := [1]) (by kernel_rfl) (by simp) ?_
  refine AllReadyH.cons rfl (fun K hK => ?_) AllReadyH.nil
  go_simp
  go_at_call 131
  (with_reducible refine (plU_any q r b t _).mono ?_)
  rintro x w4 ⟨rfl, hb⟩
  have HBC := hide (bcall HBC.out hb)
  clear hb
  (try go_simp)
  refine hK.out _ _ (by exact ⟨K1.out.below HBC.out, K2.out.below HBC.out⟩) (fun hHeld => ?_)
  clear hK
  (try simp only [Act.put, List.setIfInBounds_toArray, List.set_cons_zero, List.set_cons_succ])
  refine wpAnyH_ready (rs := [3]) (by kernel_rfl) (by simp) ?_
  refine AllReadyH.cons rfl (fun K hK => ?_) AllReadyH.nil
  go_simp
  go_at_call 131
  (with_reducible refine (plU_any q_ r_ b_ t_ _).mono ?_)
  rintro x w4 ⟨rfl, hb⟩
  have HBC := hide (bcall HBC.out hb)
  clear hb
  (try go_simp)
  refine hK.out _ _ (by exact ⟨K1.out.below HBC.out, K2.out.below HBC.out⟩) (fun hHeld => ?_)
  clear hK
  (try simp only [Act.put, List.setIfInBounds_toArray, List.set_cons_zero, List.set_cons_succ])
  refine tk 4 (h := ?_)
  refine tk 5 (h := ?_)
  refine tk 6 (h := ?_)
  refine tk 7 (hy := fun w_ h_ => ex_load1 rfl rfl h_.1 Tryz.underlying47 rfl rfl) (h := ?_)
  refine tk 8 (h := ?_)
  refine tk 9 (hy := fun w_ h_ => ex_load1 rfl rfl h_.2 Tryz.underlying47 rfl rfl) (h := ?_)
  refine wpAnyH_ready (rs := [10]) (by kernel_rfl) (by simp) ?_
  refine AllReadyH.cons rfl (fun K hK => ?_) AllReadyH.nil
  go_simp
  go_at_call 75
  (with_reducible refine (Equal_ints_c _ _ q.regs q_.regs _ ((R10.out.below HB.out).below HBC.out) ((R20.out.below HB.out).below HBC.out) _ Q1.out).mono ?_)
  rintro x w4 ⟨rfl, hb⟩
  have HBC := hide (bcall HBC.out hb)
  clear hb
  (try go_simp)
  refine hK.out _ _ (by exact ⟨K1.out.below HBC.out, K2.out.below HBC.out⟩) (fun hHeld => ?_)
  clear hK
  (try simp only [Act.put, List.setIfInBounds_toArray, List.set_cons_zero, List.set_cons_succ])
  refine tk 11 (h := ?_)
  refine tk 12 (h := ?_)
  refine tk 13 (h := ?_)
  refine tk 14 (hy := fun w_ h_ => ex_load1 rfl rfl h_.1 Tryz.underlying47 rfl rfl) (h := ?_)
  refine tk 15 (h := ?_)
  refine tk 16 (hy := fun w_ h_ => ex_load1 rfl rfl h_.2 Tryz.underlying47 rfl rfl) (h := ?_)
  refine wpAnyH_ready (rs := [17]) (by kernel_rfl) (by simp) ?_
  refine AllReadyH.cons rfl (fun K hK => ?_) AllReadyH.nil
  go_simp
  go_at_call 75
  (with_reducible refine (Equal_ints_c _ _ q.buf q_.buf _ ((R11.out.below HB.out).below HBC.out) ((R21.out.below HB.out).below HBC.out) _ Q2.out).mono ?_)
  rintro x w4 ⟨rfl, hb⟩
  have HBC := hide (bcall HBC.out hb)
  clear hb
  (try go_simp)
  refine hK.out _ _ (by exact ⟨K1.out.below HBC.out, K2.out.below HBC.out⟩) (fun hHeld => ?_)
  clear hK
  (try simp only [Act.put, List.setIfInBounds_toArray, List.set_cons_zero, List.set_cons_succ])
  refine tk 18 (h := ?_)
  refine tk 19 (h := ?_)
  refine tu 20 (h := ?_)
  refine tu 21 (h := ?_)
  refine tu 22 (h := ?_)
  refine tu 23 (h := ?_)
  refine tu 24 (h := ?_)
  refine tk 25 (h := ?_)
  refine tk 26 (h := ?_)
  refine wpAnyH_done (by kernel_rfl) ?_ _
  go_wp2
  go_ret
  exact ⟨rfl, bcall HB.out HBC.out⟩
set_option maxRecDepth 100000 in
set_option maxHeartbeats 16000000 in
theorem smU_3 (q q_ : Uq) (r b t r_ b_ t_ : Hd) (w w1 : World) (HE : Hid ((w.alloc (.cells ((utL q (hdV r) (hdV b) (hdV t))).toArray 93)).alloc (.cells ((utL q_ (hdV r_) (hdV b_) (hdV t_))).toArray 93) = w1)) (K1 : Hid (Bc 93 w1 w.heap.size (utL q (hdV r) (hdV b) (hdV t)))) (K2 : Hid (Bc 93 w1 (w.heap.size + 1) (utL q_ (hdV r_) (hdV b_) (hdV t_)))) (HB : Hid (Below w.heap.size w w1)) (R10 : Hid (Ints w (hdV r) q.regs)) (R20 : Hid (Ints w (hdV r_) q_.regs)) (R11 : Hid (Ints w (hdV b) q.buf)) (R21 : Hid (Ints w (hdV b_) q_.buf)) (R12 : Hid (Ints w (hdV t) q.batch)) (R22 : Hid (Ints w (hdV t_) q_.batch)) (Q0 : Hid (decide (PlU q q_) = true)) (Q1 : Hid (decide (q.regs = q_.regs) = true)) (Q2 : Hid (decide (q.buf = q_.buf) = true)) (Q3 : Hid (decide (q.batch = q_.batch) = false)) :
    Calls Tryz.prog 80 #[.agg ((utL q (hdV r) (hdV b) (hdV t))).toArray, .agg ((utL q_ (hdV r_) (hdV b_) (hdV t_))).toArray] w fun x w' => x = .returned (.bool false) ∧ Below w.heap.size w w' := by
  have HBC := hide (show Below w1.heap.size w1 w1.drew from ⟨rfl, rfl, rfl, Nat.le_refl _, fun _ _ => rfl⟩)
  have hq0 := eql_pu q q_
  rw [Q0.out] at hq0
  go_enter Tryz.func80, Tryz.ntmps80
  go_upto_region 1 with (fail)
  rw [HE.out]
  refine wp_region_held_drew (S := fun w_ => Bc 93 w_ w.heap.size (utL q (hdV r) (hdV b) (hdV t)) ∧ Bc 93 w_ (w.heap.size + 1) (utL q_ (hdV r_) (hdV b_) (hdV t_))) (by kernel_rfl) ?_ (fun hHeld => ?_)
  · exact (by exact ⟨K1.out.below HBC.out, K2.out.below HBC.out⟩)
  refine tk 0 (hy := fun w_ h_ => ex_loadk (m := (utL q (hdV r) (hdV b) (hdV t))) rfl rfl h_.1 Tryz.underlying93 rfl (by kernel_rfl) rfl) (h := ?_)
  refine tk 2 (hy := fun w_ h_ => ex_loadk (m := (utL q_ (hdV r_) (hdV b_) (hdV t_))) rfl rfl h_.2 Tryz.underlying93 rfl (by kernel_rfl) rfl) (h := ?_)
  refine wpAnyH_ready (rs := [1]) (by kernel_rfl) (by simp) ?_
  refine AllReadyH.cons rfl (fun K hK => ?_) AllReadyH.nil
  go_simp
  go_at_call 131
  (with_reducible refine (plU_any q r b t _).mono ?_)
  rintro x w4 ⟨rfl, hb⟩
  have HBC := hide (bcall HBC.out hb)
  clear hb
  (try go_simp)
  refine hK.out _ _ (by exact ⟨K1.out.below HBC.out, K2.out.below HBC.out⟩) (fun hHeld => ?_)
  clear hK
  (try simp only [Act.put, List.setIfInBounds_toArray, List.set_cons_zero, List.set_cons_succ])
  refine wpAnyH_ready (rs := [3]) (by kernel_rfl) (by simp) ?_
  refine AllReadyH.cons rfl (fun K hK => ?_) AllReadyH.nil
  go_simp
  go_at_call 131
  (with_reducible refine (plU_any q_ r_ b_ t_ _).mono ?_)
  rintro x w4 ⟨rfl, hb⟩
  have HBC := hide (bcall HBC.out hb)
  clear hb
  (try go_simp)
  refine hK.out _ _ (by exact ⟨K1.out.below HBC.out, K2.out.below HBC.out⟩) (fun hHeld => ?_)
  clear hK
  (try simp only [Act.put, List.setIfInBounds_toArray, List.set_cons_zero, List.set_cons_succ])
  refine tk 4 (h := ?_)
  refine tk 5 (h := ?_)
  refine tk 6 (h := ?_)
  refine tk 7 (hy := fun w_ h_ => ex_load1 rfl rfl h_.1 Tryz.underlying47 rfl rfl) (h := ?_)
  refine tk 8 (h := ?_)
  refine tk 9 (hy := fun w_ h_ => ex_load1 rfl rfl h_.2 Tryz.underlying47 rfl rfl) (h := ?_)
  refine wpAnyH_ready (rs := [10]) (by kernel_rfl) (by simp) ?_
  refine AllReadyH.cons rfl (fun K hK => ?_) AllReadyH.nil
  go_simp
  go_at_call 75
  (with_reducible refine (Equal_ints_c _ _ q.regs q_.regs _ ((R10.out.below HB.out).below HBC.out) ((R20.out.below HB.out).below HBC.out) _ Q1.out).mono ?_)
  rintro x w4 ⟨rfl, hb⟩
  have HBC := hide (bcall HBC.out hb)
  clear hb
  (try go_simp)
  refine hK.out _ _ (by exact ⟨K1.out.below HBC.out, K2.out.below HBC.out⟩) (fun hHeld => ?_)
  clear hK
  (try simp only [Act.put, List.setIfInBounds_toArray, List.set_cons_zero, List.set_cons_succ])
  refine tk 11 (h := ?_)
  refine tk 12 (h := ?_)
  refine tk 13 (h := ?_)
  refine tk 14 (hy := fun w_ h_ => ex_load1 rfl rfl h_.1 Tryz.underlying47 rfl rfl) (h := ?_)
  refine tk 15 (h := ?_)
  refine tk 16 (hy := fun w_ h_ => ex_load1 rfl rfl h_.2 Tryz.underlying47 rfl rfl) (h := ?_)
  refine wpAnyH_ready (rs := [17]) (by kernel_rfl) (by simp) ?_
  refine AllReadyH.cons rfl (fun K hK => ?_) AllReadyH.nil
  go_simp
  go_at_call 75
  (with_reducible refine (Equal_ints_c _ _ q.buf q_.buf _ ((R11.out.below HB.out).below HBC.out) ((R21.out.below HB.out).below HBC.out) _ Q2.out).mono ?_)
  rintro x w4 ⟨rfl, hb⟩
  have HBC := hide (bcall HBC.out hb)
  clear hb
  (try go_simp)
  refine hK.out _ _ (by exact ⟨K1.out.below HBC.out, K2.out.below HBC.out⟩) (fun hHeld => ?_)
  clear hK
  (try simp only [Act.put, List.setIfInBounds_toArray, List.set_cons_zero, List.set_cons_succ])
  refine tk 18 (h := ?_)
  refine tk 19 (h := ?_)
  refine tk 20 (h := ?_)
  refine tk 21 (hy := fun w_ h_ => ex_load1 rfl rfl h_.1 Tryz.underlying47 rfl rfl) (h := ?_)
  refine tk 22 (h := ?_)
  refine tk 23 (hy := fun w_ h_ => ex_load1 rfl rfl h_.2 Tryz.underlying47 rfl rfl) (h := ?_)
  refine wpAnyH_ready (rs := [24]) (by kernel_rfl) (by simp) ?_
  refine AllReadyH.cons rfl (fun K hK => ?_) AllReadyH.nil
  go_simp
  go_at_call 75
  (with_reducible refine (Equal_ints_c _ _ q.batch q_.batch _ ((R12.out.below HB.out).below HBC.out) ((R22.out.below HB.out).below HBC.out) _ Q3.out).mono ?_)
  rintro x w4 ⟨rfl, hb⟩
  have HBC := hide (bcall HBC.out hb)
  clear hb
  (try go_simp)
  refine hK.out _ _ (by exact ⟨K1.out.below HBC.out, K2.out.below HBC.out⟩) (fun hHeld => ?_)
  clear hK
  (try simp only [Act.put, List.setIfInBounds_toArray, List.set_cons_zero, List.set_cons_succ])
  refine tk 25 (h := ?_)
  refine tk 26 (h := ?_)
  refine wpAnyH_done (by kernel_rfl) ?_ _
  go_wp2
  go_ret
  exact ⟨rfl, bcall HB.out HBC.out⟩
set_option maxRecDepth 100000 in
set_option maxHeartbeats 16000000 in
theorem smU_4 (q q_ : Uq) (r b t r_ b_ t_ : Hd) (w w1 : World) (HE : Hid ((w.alloc (.cells ((utL q (hdV r) (hdV b) (hdV t))).toArray 93)).alloc (.cells ((utL q_ (hdV r_) (hdV b_) (hdV t_))).toArray 93) = w1)) (K1 : Hid (Bc 93 w1 w.heap.size (utL q (hdV r) (hdV b) (hdV t)))) (K2 : Hid (Bc 93 w1 (w.heap.size + 1) (utL q_ (hdV r_) (hdV b_) (hdV t_)))) (HB : Hid (Below w.heap.size w w1)) (R10 : Hid (Ints w (hdV r) q.regs)) (R20 : Hid (Ints w (hdV r_) q_.regs)) (R11 : Hid (Ints w (hdV b) q.buf)) (R21 : Hid (Ints w (hdV b_) q_.buf)) (R12 : Hid (Ints w (hdV t) q.batch)) (R22 : Hid (Ints w (hdV t_) q_.batch)) (Q0 : Hid (decide (PlU q q_) = true)) (Q1 : Hid (decide (q.regs = q_.regs) = true)) (Q2 : Hid (decide (q.buf = q_.buf) = true)) (Q3 : Hid (decide (q.batch = q_.batch) = true)) :
    Calls Tryz.prog 80 #[.agg ((utL q (hdV r) (hdV b) (hdV t))).toArray, .agg ((utL q_ (hdV r_) (hdV b_) (hdV t_))).toArray] w fun x w' => x = .returned (.bool true) ∧ Below w.heap.size w w' := by
  have HBC := hide (show Below w1.heap.size w1 w1.drew from ⟨rfl, rfl, rfl, Nat.le_refl _, fun _ _ => rfl⟩)
  have hq0 := eql_pu q q_
  rw [Q0.out] at hq0
  go_enter Tryz.func80, Tryz.ntmps80
  go_upto_region 1 with (fail)
  rw [HE.out]
  refine wp_region_held_drew (S := fun w_ => Bc 93 w_ w.heap.size (utL q (hdV r) (hdV b) (hdV t)) ∧ Bc 93 w_ (w.heap.size + 1) (utL q_ (hdV r_) (hdV b_) (hdV t_))) (by kernel_rfl) ?_ (fun hHeld => ?_)
  · exact (by exact ⟨K1.out.below HBC.out, K2.out.below HBC.out⟩)
  refine tk 0 (hy := fun w_ h_ => ex_loadk (m := (utL q (hdV r) (hdV b) (hdV t))) rfl rfl h_.1 Tryz.underlying93 rfl (by kernel_rfl) rfl) (h := ?_)
  refine tk 2 (hy := fun w_ h_ => ex_loadk (m := (utL q_ (hdV r_) (hdV b_) (hdV t_))) rfl rfl h_.2 Tryz.underlying93 rfl (by kernel_rfl) rfl) (h := ?_)
  refine wpAnyH_ready (rs := [1]) (by kernel_rfl) (by simp) ?_
  refine AllReadyH.cons rfl (fun K hK => ?_) AllReadyH.nil
  go_simp
  go_at_call 131
  (with_reducible refine (plU_any q r b t _).mono ?_)
  rintro x w4 ⟨rfl, hb⟩
  have HBC := hide (bcall HBC.out hb)
  clear hb
  (try go_simp)
  refine hK.out _ _ (by exact ⟨K1.out.below HBC.out, K2.out.below HBC.out⟩) (fun hHeld => ?_)
  clear hK
  (try simp only [Act.put, List.setIfInBounds_toArray, List.set_cons_zero, List.set_cons_succ])
  refine wpAnyH_ready (rs := [3]) (by kernel_rfl) (by simp) ?_
  refine AllReadyH.cons rfl (fun K hK => ?_) AllReadyH.nil
  go_simp
  go_at_call 131
  (with_reducible refine (plU_any q_ r_ b_ t_ _).mono ?_)
  rintro x w4 ⟨rfl, hb⟩
  have HBC := hide (bcall HBC.out hb)
  clear hb
  (try go_simp)
  refine hK.out _ _ (by exact ⟨K1.out.below HBC.out, K2.out.below HBC.out⟩) (fun hHeld => ?_)
  clear hK
  (try simp only [Act.put, List.setIfInBounds_toArray, List.set_cons_zero, List.set_cons_succ])
  refine tk 4 (h := ?_)
  refine tk 5 (h := ?_)
  refine tk 6 (h := ?_)
  refine tk 7 (hy := fun w_ h_ => ex_load1 rfl rfl h_.1 Tryz.underlying47 rfl rfl) (h := ?_)
  refine tk 8 (h := ?_)
  refine tk 9 (hy := fun w_ h_ => ex_load1 rfl rfl h_.2 Tryz.underlying47 rfl rfl) (h := ?_)
  refine wpAnyH_ready (rs := [10]) (by kernel_rfl) (by simp) ?_
  refine AllReadyH.cons rfl (fun K hK => ?_) AllReadyH.nil
  go_simp
  go_at_call 75
  (with_reducible refine (Equal_ints_c _ _ q.regs q_.regs _ ((R10.out.below HB.out).below HBC.out) ((R20.out.below HB.out).below HBC.out) _ Q1.out).mono ?_)
  rintro x w4 ⟨rfl, hb⟩
  have HBC := hide (bcall HBC.out hb)
  clear hb
  (try go_simp)
  refine hK.out _ _ (by exact ⟨K1.out.below HBC.out, K2.out.below HBC.out⟩) (fun hHeld => ?_)
  clear hK
  (try simp only [Act.put, List.setIfInBounds_toArray, List.set_cons_zero, List.set_cons_succ])
  refine tk 11 (h := ?_)
  refine tk 12 (h := ?_)
  refine tk 13 (h := ?_)
  refine tk 14 (hy := fun w_ h_ => ex_load1 rfl rfl h_.1 Tryz.underlying47 rfl rfl) (h := ?_)
  refine tk 15 (h := ?_)
  refine tk 16 (hy := fun w_ h_ => ex_load1 rfl rfl h_.2 Tryz.underlying47 rfl rfl) (h := ?_)
  refine wpAnyH_ready (rs := [17]) (by kernel_rfl) (by simp) ?_
  refine AllReadyH.cons rfl (fun K hK => ?_) AllReadyH.nil
  go_simp
  go_at_call 75
  (with_reducible refine (Equal_ints_c _ _ q.buf q_.buf _ ((R11.out.below HB.out).below HBC.out) ((R21.out.below HB.out).below HBC.out) _ Q2.out).mono ?_)
  rintro x w4 ⟨rfl, hb⟩
  have HBC := hide (bcall HBC.out hb)
  clear hb
  (try go_simp)
  refine hK.out _ _ (by exact ⟨K1.out.below HBC.out, K2.out.below HBC.out⟩) (fun hHeld => ?_)
  clear hK
  (try simp only [Act.put, List.setIfInBounds_toArray, List.set_cons_zero, List.set_cons_succ])
  refine tk 18 (h := ?_)
  refine tk 19 (h := ?_)
  refine tk 20 (h := ?_)
  refine tk 21 (hy := fun w_ h_ => ex_load1 rfl rfl h_.1 Tryz.underlying47 rfl rfl) (h := ?_)
  refine tk 22 (h := ?_)
  refine tk 23 (hy := fun w_ h_ => ex_load1 rfl rfl h_.2 Tryz.underlying47 rfl rfl) (h := ?_)
  refine wpAnyH_ready (rs := [24]) (by kernel_rfl) (by simp) ?_
  refine AllReadyH.cons rfl (fun K hK => ?_) AllReadyH.nil
  go_simp
  go_at_call 75
  (with_reducible refine (Equal_ints_c _ _ q.batch q_.batch _ ((R12.out.below HB.out).below HBC.out) ((R22.out.below HB.out).below HBC.out) _ Q3.out).mono ?_)
  rintro x w4 ⟨rfl, hb⟩
  have HBC := hide (bcall HBC.out hb)
  clear hb
  (try go_simp)
  refine hK.out _ _ (by exact ⟨K1.out.below HBC.out, K2.out.below HBC.out⟩) (fun hHeld => ?_)
  clear hK
  (try simp only [Act.put, List.setIfInBounds_toArray, List.set_cons_zero, List.set_cons_succ])
  refine tk 25 (h := ?_)
  refine tk 26 (h := ?_)
  refine wpAnyH_done (by kernel_rfl) ?_ _
  go_wp2
  go_ret
  exact ⟨rfl, bcall HB.out HBC.out⟩
theorem uq_eq (q q_ : Uq) : decide (q = q_) = (decide (PlU q q_) && (decide (q.regs = q_.regs) && (decide (q.buf = q_.buf) && decide (q.batch = q_.batch)))) := by
  cases q; cases q_
  rw [Bool.eq_iff_iff, Bool.and_eq_true, Bool.and_eq_true, Bool.and_eq_true, decide_eq_true_iff, decide_eq_true_iff, decide_eq_true_iff, decide_eq_true_iff, decide_eq_true_iff]
  unfold PlU
  simp only [Uq.mk.injEq]
  constructor
  · rintro ⟨h1, h2, h3, h4, h5, h6, h7, h8, h9, ha, hb, hc, hd⟩; exact ⟨⟨h1, h2, h3, h4, h5, h6, h7, h8, hc, hd⟩, h9, ha, hb⟩
  · rintro ⟨⟨h1, h2, h3, h4, h5, h6, h7, h8, hc, hd⟩, h9, ha, hb⟩; exact ⟨h1, h2, h3, h4, h5, h6, h7, h8, h9, ha, hb, hc, hd⟩
theorem smU_any (q q_ : Uq) (r b t r_ b_ t_ : Hd) (w : World) (h0 : Ints w (hdV r) q.regs) (g0 : Ints w (hdV r_) q_.regs) (h1 : Ints w (hdV b) q.buf) (g1 : Ints w (hdV b_) q_.buf) (h2 : Ints w (hdV t) q.batch) (g2 : Ints w (hdV t_) q_.batch) :
    Calls Tryz.prog 80 #[.agg (utE (q, r, b, t)).toArray, .agg (utE (q_, r_, b_, t_)).toArray] w fun x w' => x = .returned (.bool (decide (q = q_))) ∧ Below w.heap.size w w' := by
  obtain ⟨w1, e1, k1, k2, hb1, -⟩ := two_box w (utL q (hdV r) (hdV b) (hdV t)) (utL q_ (hdV r_) (hdV b_) (hdV t_)) 93 93
  rw [uq_eq]
  cases d0 : decide (PlU q q_)
  · exact smU_0 q q_ r b t r_ b_ t_ w w1 e1 k1 k2 hb1 h0 g0 h1 g1 h2 g2 d0
  · cases d1 : decide (q.regs = q_.regs)
    · exact smU_1 q q_ r b t r_ b_ t_ w w1 e1 k1 k2 hb1 h0 g0 h1 g1 h2 g2 d0 d1
    · cases d2 : decide (q.buf = q_.buf)
      · exact smU_2 q q_ r b t r_ b_ t_ w w1 e1 k1 k2 hb1 h0 g0 h1 g1 h2 g2 d0 d1 d2
      · cases d3 : decide (q.batch = q_.batch)
        · exact smU_3 q q_ r b t r_ b_ t_ w w1 e1 k1 k2 hb1 h0 g0 h1 g1 h2 g2 d0 d1 d2 d3
        · exact smU_4 q q_ r b t r_ b_ t_ w w1 e1 k1 k2 hb1 h0 g0 h1 g1 h2 g2 d0 d1 d2 d3
end Go.Proofs.YtdmbcjckgfjcaaaGreatDoor
