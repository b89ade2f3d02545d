import Derived.Test.YtdmbcjckgfjcaaaGreatDoorRbc
import Derived.Test.YtdmbcjckgfjcaaaGreatDoorRbx
import Derived.Test.YtdmbcjckgfjcaaaGreatDoorRbt
/- Layer state: the calls of Same, named. Written by tools/genstate7.py. -/
namespace Go.Proofs.YtdmbcjckgfjcaaaGreatDoor
open Go.RowKit Go.Joins Go.Shelf
theorem sm_h (q q_ : Sq) (v v_ : Sv) (W : World) (R1 : StR W v q) (R2 : StR W v_ q_) (r : Bool) (hr : decide (q.sl = q_.sl ∧ q.ob = q_.ob) = r) :
    Calls Tryz.prog 72 #[.agg #[.int .i64 q.sl, hdV v.hob], .agg #[.int .i64 q_.sl, hdV v_.hob]] W fun x w' => x = .returned (.bool r) ∧ Below W.heap.size W w' := by
  exact Same_cHp q.sl q_.sl _ _ q.ob q_.ob W R1.hob R2.hob r hr
theorem sm_m (q q_ : Sq) (v v_ : Sv) (W : World) (R1 : StR W v q) (R2 : StR W v_ q_) (r : Bool) (hr : decide (q.m = q_.m) = r) :
    Calls Tryz.prog 73 #[hdV v.m, hdV v_.m] W fun x w' => x = .returned (.bool r) ∧ Below W.heap.size W w' := by
  subst hr; exact Same_anyMe _ _ q.m q_.m W R1.m R2.m
theorem sm_b (q q_ : Sq) (v v_ : Sv) (W : World) (R1 : StR W v q) (R2 : StR W v_ q_) (r : Bool) (hr : decide (q.bins = q_.bins) = r) :
    Calls Tryz.prog 74 #[hdV v.bins, hdV v_.bins, .func (.func 75) #[] #[]] W fun x w' => x = .returned (.bool r) ∧ Below W.heap.size W w' := by
  subst hr; exact EqualFunc_rows _ _ q.bins q_.bins W R1.bins R2.bins
theorem sm_a (q q_ : Sq) (v v_ : Sv) (W : World) (R1 : StR W v q) (R2 : StR W v_ q_) (r : Bool) (hr : decide (q.acks = q_.acks) = r) :
    Calls Tryz.prog 75 #[hdV v.acks, hdV v_.acks] W fun x w' => x = .returned (.bool r) ∧ Below W.heap.size W w' := by
  exact Equal_ints_c _ _ q.acks q_.acks W R1.acks R2.acks r hr
theorem sm_l (q q_ : Sq) (v v_ : Sv) (W : World) (R1 : StR W v q) (R2 : StR W v_ q_) (r : Bool) (hr : decide (q.l = q_.l) = r) :
    Calls Tryz.prog 76 #[.agg #[.int .i64 q.l.scanned, .int .i64 q.l.spent, .int .i64 q.l.pool, hdV v.bl], .agg #[.int .i64 q_.l.scanned, .int .i64 q_.l.spent, .int .i64 q_.l.pool, hdV v_.bl]] W fun x w' => x = .returned (.bool r) ∧ Below W.heap.size W w' := by
  refine Same_cLe _ _ _ _ q.l.bal _ _ _ _ q_.l.bal W R1.bl R2.bl r ?_
  subst hr
  unfold lSame
  rw [decide_eq_decide]
  cases h : q.l; cases h' : q_.l
  simp
theorem sm_ws (q q_ : Sq) (v v_ : Sv) (W : World) (R1 : StR W v q) (R2 : StR W v_ q_) (r : Bool) (hr : decide (q.ws = q_.ws) = r) :
    Calls Tryz.prog 77 #[hdV v.ws, hdV v_.ws, .func (.func 78) #[] #[]] W fun x w' => x = .returned (.bool r) ∧ Below W.heap.size W w' := by
  subst hr; exact EqualFunc_wks _ _ q.ws q_.ws W R1.ws R2.ws
theorem sm_ms (q q_ : Sq) (v v_ : Sv) (W : World) (R1 : StR W v q) (R2 : StR W v_ q_) (r : Bool) (hr : decide (q.ms = q_.ms) = r) :
    Calls Tryz.prog 79 #[hdV v.ms, hdV v_.ms, .func (.func 80) #[] #[]] W fun x w' => x = .returned (.bool r) ∧ Below W.heap.size W w' := by
  subst hr; exact EqualFunc_uts _ _ q.ms q_.ms W R1.ms R2.ms
theorem sm_p (q q_ : Sq) (v v_ : Sv) (W : World) (R1 : StR W v q) (R2 : StR W v_ q_) (r : Bool) (hr : decide (q.p = q_.p) = r) :
    Calls Tryz.prog 81 #[.agg #[.int .i64 q.p.wk, .int .i64 q.p.mu, .int .i64 q.p.cp, .int .i64 q.p.bf, .int .i64 q.p.bn, .int .i64 q.p.mo, .int .i64 q.p.pr, .int .i64 q.p.li, .int .i64 q.p.sl, (hdV v.ob), .int .u64 (q.p.ro : Int), (hdV v.rg), (hdV v.pg), (hdV v.pk)], .agg #[.int .i64 q_.p.wk, .int .i64 q_.p.mu, .int .i64 q_.p.cp, .int .i64 q_.p.bf, .int .i64 q_.p.bn, .int .i64 q_.p.mo, .int .i64 q_.p.pr, .int .i64 q_.p.li, .int .i64 q_.p.sl, (hdV v_.ob), .int .u64 (q_.p.ro : Int), (hdV v_.rg), (hdV v_.pg), (hdV v_.pk)]] W fun x w' => x = .returned (.bool r) ∧ Below W.heap.size W w' := by
  exact pSame_c _ _ _ _ _ _ _ _ _ _ _ _ _ _ _ _ _ _ _ _ _ _ _ _ _ _ _ _ _ _ _ _ _ _ _ _ W R1.p R2.p r hr
end Go.Proofs.YtdmbcjckgfjcaaaGreatDoor
/- Layer state: Same, by its first conjunct that is false. Written by tools/genstate7.py. -/
namespace Go.Proofs.YtdmbcjckgfjcaaaGreatDoor
open Go.RowKit Go.Joins Go.Shelf
set_option maxRecDepth 100000 in
set_option maxHeartbeats 16000000 in
theorem smS_0 (q q_ : Sq) (v v_ : Sv) (w w1 : World) (HE : Hid ((w.alloc (.cells ((stL q v)).toArray 66)).alloc (.cells ((stL q_ v_)).toArray 66) = w1)) (K1 : Hid (Bc 66 w1 w.heap.size (stL q v))) (K2 : Hid (Bc 66 w1 (w.heap.size + 1) (stL q_ v_))) (HB : Hid (Below w.heap.size w w1)) (_R1 : Hid (StR w1 v q)) (_R2 : Hid (StR w1 v_ q_)) (Q0 : Hid (decide (PlS q q_) = false)) :
    Calls Tryz.prog 24 #[.agg ((stL q v)).toArray, .agg ((stL q_ v_)).toArray] w fun x w' => x = .returned (.bool false) ∧ Below w.heap.size w w' := by
  have HBC := hide (show Below w1.heap.size w1 w1.drew from ⟨rfl, rfl, rfl, Nat.le_refl _, fun _ _ => rfl⟩)
  have hq0 := eql_ps q q_
  rw [Q0.out] at hq0
  go_enter Tryz.func24, Tryz.ntmps24
  go_upto_region 1 with (fail)
  rw [HE.out]
  (try simp only [List.append_eq, List.cons_append, List.nil_append])
  refine wp_region_held_drew (S := fun w_ => Bc 66 w_ w.heap.size (stL q v) ∧ Bc 66 w_ (w.heap.size + 1) (stL q_ v_)) (by kernel_rfl) ?_ (fun hHeld => ?_)
  · exact (by exact ⟨K1.out.below HBC.out, K2.out.below HBC.out⟩)
  refine tk 0 (hy := fun w_ h_ => ex_loadk (m := stL q v) rfl rfl h_.1 Tryz.underlying66 rfl (by kernel_rfl) rfl) (h := ?_)
  refine tk 2 (hy := fun w_ h_ => ex_loadk (m := stL q_ v_) rfl rfl h_.2 Tryz.underlying66 rfl (by kernel_rfl) rfl) (h := ?_)
  refine wpAnyH_ready (rs := [1]) (by kernel_rfl) (by simp) ?_
  refine AllReadyH.cons rfl (fun K hK => ?_) AllReadyH.nil
  go_simp
  go_at_call 71
  (with_reducible refine (plS_any q v _).mono ?_)
  rintro x w4 ⟨rfl, hb⟩
  have HBC := hide (bcall HBC.out hb)
  clear hb
  (try go_simp)
  refine hK.out _ _ (by exact ⟨K1.out.below HBC.out, K2.out.below HBC.out⟩) (fun hHeld => ?_)
  clear hK
  (try simp only [Act.put, List.setIfInBounds_toArray, List.set_cons_zero, List.set_cons_succ])
  refine wpAnyH_ready (rs := [3]) (by kernel_rfl) (by simp) ?_
  refine AllReadyH.cons rfl (fun K hK => ?_) AllReadyH.nil
  go_simp
  go_at_call 71
  (with_reducible refine (plS_any q_ v_ _).mono ?_)
  rintro x w4 ⟨rfl, hb⟩
  have HBC := hide (bcall HBC.out hb)
  clear hb
  (try go_simp)
  refine hK.out _ _ (by exact ⟨K1.out.below HBC.out, K2.out.below HBC.out⟩) (fun hHeld => ?_)
  clear hK
  (try simp only [Act.put, List.setIfInBounds_toArray, List.set_cons_zero, List.set_cons_succ])
  refine tk 4 (h := ?_)
  refine tk 5 (h := ?_)
  refine tu 6 (h := ?_)
  refine tu 7 (h := ?_)
  refine tu 8 (h := ?_)
  refine tu 9 (h := ?_)
  refine tu 10 (h := ?_)
  refine tk 11 (h := ?_)
  refine tk 12 (h := ?_)
  refine tu 13 (h := ?_)
  refine tu 14 (h := ?_)
  refine tu 15 (h := ?_)
  refine tu 16 (h := ?_)
  refine tu 17 (h := ?_)
  refine tk 18 (h := ?_)
  refine tk 19 (h := ?_)
  refine tu 20 (h := ?_)
  refine tu 21 (h := ?_)
  refine tu 22 (h := ?_)
  refine tu 23 (h := ?_)
  refine tu 24 (h := ?_)
  refine tk 25 (h := ?_)
  refine tk 26 (h := ?_)
  refine tu 27 (h := ?_)
  refine tu 28 (h := ?_)
  refine tu 29 (h := ?_)
  refine tu 30 (h := ?_)
  refine tu 31 (h := ?_)
  refine tk 32 (h := ?_)
  refine tk 33 (h := ?_)
  refine tu 34 (h := ?_)
  refine tu 35 (h := ?_)
  refine tu 36 (h := ?_)
  refine tu 37 (h := ?_)
  refine tu 38 (h := ?_)
  refine tk 39 (h := ?_)
  refine tk 40 (h := ?_)
  refine tu 41 (h := ?_)
  refine tu 42 (h := ?_)
  refine tu 43 (h := ?_)
  refine tu 44 (h := ?_)
  refine tu 45 (h := ?_)
  refine tk 46 (h := ?_)
  refine tk 47 (h := ?_)
  refine tu 48 (h := ?_)
  refine tu 49 (h := ?_)
  refine tu 50 (h := ?_)
  refine tu 51 (h := ?_)
  refine tu 52 (h := ?_)
  refine tk 53 (h := ?_)
  refine tk 54 (h := ?_)
  refine tu 55 (h := ?_)
  refine tu 56 (h := ?_)
  refine tu 57 (h := ?_)
  refine tu 58 (h := ?_)
  refine tu 59 (h := ?_)
  refine tk 60 (h := ?_)
  refine tk 61 (h := ?_)
  refine wpAnyH_done (by kernel_rfl) ?_ _
  go_wp2
  go_ret
  exact ⟨rfl, bcall HB.out HBC.out⟩
set_option maxRecDepth 100000 in
set_option maxHeartbeats 16000000 in
theorem smS_1 (q q_ : Sq) (v v_ : Sv) (w w1 : World) (HE : Hid ((w.alloc (.cells ((stL q v)).toArray 66)).alloc (.cells ((stL q_ v_)).toArray 66) = w1)) (K1 : Hid (Bc 66 w1 w.heap.size (stL q v))) (K2 : Hid (Bc 66 w1 (w.heap.size + 1) (stL q_ v_))) (HB : Hid (Below w.heap.size w w1)) (R1 : Hid (StR w1 v q)) (R2 : Hid (StR w1 v_ q_)) (Q0 : Hid (decide (PlS q q_) = true)) (Q1 : Hid (decide (q.sl = q_.sl ∧ q.ob = q_.ob) = false)) :
    Calls Tryz.prog 24 #[.agg ((stL q v)).toArray, .agg ((stL q_ v_)).toArray] w fun x w' => x = .returned (.bool false) ∧ Below w.heap.size w w' := by
  have HBC := hide (show Below w1.heap.size w1 w1.drew from ⟨rfl, rfl, rfl, Nat.le_refl _, fun _ _ => rfl⟩)
  have hq0 := eql_ps q q_
  rw [Q0.out] at hq0
  go_enter Tryz.func24, Tryz.ntmps24
  go_upto_region 1 with (fail)
  rw [HE.out]
  (try simp only [List.append_eq, List.cons_append, List.nil_append])
  refine wp_region_held_drew (S := fun w_ => Bc 66 w_ w.heap.size (stL q v) ∧ Bc 66 w_ (w.heap.size + 1) (stL q_ v_)) (by kernel_rfl) ?_ (fun hHeld => ?_)
  · exact (by exact ⟨K1.out.below HBC.out, K2.out.below HBC.out⟩)
  refine tk 0 (hy := fun w_ h_ => ex_loadk (m := stL q v) rfl rfl h_.1 Tryz.underlying66 rfl (by kernel_rfl) rfl) (h := ?_)
  refine tk 2 (hy := fun w_ h_ => ex_loadk (m := stL q_ v_) rfl rfl h_.2 Tryz.underlying66 rfl (by kernel_rfl) rfl) (h := ?_)
  refine wpAnyH_ready (rs := [1]) (by kernel_rfl) (by simp) ?_
  refine AllReadyH.cons rfl (fun K hK => ?_) AllReadyH.nil
  go_simp
  go_at_call 71
  (with_reducible refine (plS_any q v _).mono ?_)
  rintro x w4 ⟨rfl, hb⟩
  have HBC := hide (bcall HBC.out hb)
  clear hb
  (try go_simp)
  refine hK.out _ _ (by exact ⟨K1.out.below HBC.out, K2.out.below HBC.out⟩) (fun hHeld => ?_)
  clear hK
  (try simp only [Act.put, List.setIfInBounds_toArray, List.set_cons_zero, List.set_cons_succ])
  refine wpAnyH_ready (rs := [3]) (by kernel_rfl) (by simp) ?_
  refine AllReadyH.cons rfl (fun K hK => ?_) AllReadyH.nil
  go_simp
  go_at_call 71
  (with_reducible refine (plS_any q_ v_ _).mono ?_)
  rintro x w4 ⟨rfl, hb⟩
  have HBC := hide (bcall HBC.out hb)
  clear hb
  (try go_simp)
  refine hK.out _ _ (by exact ⟨K1.out.below HBC.out, K2.out.below HBC.out⟩) (fun hHeld => ?_)
  clear hK
  (try simp only [Act.put, List.setIfInBounds_toArray, List.set_cons_zero, List.set_cons_succ])
  refine tk 4 (h := ?_)
  refine tk 5 (h := ?_)
  refine tk 6 (h := ?_)
  refine tk 7 (hy := fun w_ h_ => ex_loadk (m := [.int .i64 q.sl, hdV v.hob]) rfl rfl h_.1 Tryz.underlying24 rfl (by kernel_rfl) rfl) (h := ?_)
  refine tk 8 (h := ?_)
  refine tk 9 (hy := fun w_ h_ => ex_loadk (m := [.int .i64 q_.sl, hdV v_.hob]) rfl rfl h_.2 Tryz.underlying24 rfl (by kernel_rfl) rfl) (h := ?_)
  refine wpAnyH_ready (rs := [10]) (by kernel_rfl) (by simp) ?_
  refine AllReadyH.cons rfl (fun K hK => ?_) AllReadyH.nil
  go_simp
  go_at_call 72
  (with_reducible refine (sm_h q q_ v v_ _ (R1.out.below HBC.out) (R2.out.below HBC.out) _ Q1.out).mono ?_)
  rintro x w4 ⟨rfl, hb⟩
  have HBC := hide (bcall HBC.out hb)
  clear hb
  (try go_simp)
  refine hK.out _ _ (by exact ⟨K1.out.below HBC.out, K2.out.below HBC.out⟩) (fun hHeld => ?_)
  clear hK
  (try simp only [Act.put, List.setIfInBounds_toArray, List.set_cons_zero, List.set_cons_succ])
  refine tk 11 (h := ?_)
  refine tk 12 (h := ?_)
  refine tu 13 (h := ?_)
  refine tu 14 (h := ?_)
  refine tu 15 (h := ?_)
  refine tu 16 (h := ?_)
  refine tu 17 (h := ?_)
  refine tk 18 (h := ?_)
  refine tk 19 (h := ?_)
  refine tu 20 (h := ?_)
  refine tu 21 (h := ?_)
  refine tu 22 (h := ?_)
  refine tu 23 (h := ?_)
  refine tu 24 (h := ?_)
  refine tk 25 (h := ?_)
  refine tk 26 (h := ?_)
  refine tu 27 (h := ?_)
  refine tu 28 (h := ?_)
  refine tu 29 (h := ?_)
  refine tu 30 (h := ?_)
  refine tu 31 (h := ?_)
  refine tk 32 (h := ?_)
  refine tk 33 (h := ?_)
  refine tu 34 (h := ?_)
  refine tu 35 (h := ?_)
  refine tu 36 (h := ?_)
  refine tu 37 (h := ?_)
  refine tu 38 (h := ?_)
  refine tk 39 (h := ?_)
  refine tk 40 (h := ?_)
  refine tu 41 (h := ?_)
  refine tu 42 (h := ?_)
  refine tu 43 (h := ?_)
  refine tu 44 (h := ?_)
  refine tu 45 (h := ?_)
  refine tk 46 (h := ?_)
  refine tk 47 (h := ?_)
  refine tu 48 (h := ?_)
  refine tu 49 (h := ?_)
  refine tu 50 (h := ?_)
  refine tu 51 (h := ?_)
  refine tu 52 (h := ?_)
  refine tk 53 (h := ?_)
  refine tk 54 (h := ?_)
  refine tu 55 (h := ?_)
  refine tu 56 (h := ?_)
  refine tu 57 (h := ?_)
  refine tu 58 (h := ?_)
  refine tu 59 (h := ?_)
  refine tk 60 (h := ?_)
  refine tk 61 (h := ?_)
  refine wpAnyH_done (by kernel_rfl) ?_ _
  go_wp2
  go_ret
  exact ⟨rfl, bcall HB.out HBC.out⟩
set_option maxRecDepth 100000 in
set_option maxHeartbeats 16000000 in
theorem smS_2 (q q_ : Sq) (v v_ : Sv) (w w1 : World) (HE : Hid ((w.alloc (.cells ((stL q v)).toArray 66)).alloc (.cells ((stL q_ v_)).toArray 66) = w1)) (K1 : Hid (Bc 66 w1 w.heap.size (stL q v))) (K2 : Hid (Bc 66 w1 (w.heap.size + 1) (stL q_ v_))) (HB : Hid (Below w.heap.size w w1)) (R1 : Hid (StR w1 v q)) (R2 : Hid (StR w1 v_ q_)) (Q0 : Hid (decide (PlS q q_) = true)) (Q1 : Hid (decide (q.sl = q_.sl ∧ q.ob = q_.ob) = true)) (Q2 : Hid (decide (q.m = q_.m) = false)) :
    Calls Tryz.prog 24 #[.agg ((stL q v)).toArray, .agg ((stL q_ v_)).toArray] w fun x w' => x = .returned (.bool false) ∧ Below w.heap.size w w' := by
  have HBC := hide (show Below w1.heap.size w1 w1.drew from ⟨rfl, rfl, rfl, Nat.le_refl _, fun _ _ => rfl⟩)
  have hq0 := eql_ps q q_
  rw [Q0.out] at hq0
  go_enter Tryz.func24, Tryz.ntmps24
  go_upto_region 1 with (fail)
  rw [HE.out]
  (try simp only [List.append_eq, List.cons_append, List.nil_append])
  refine wp_region_held_drew (S := fun w_ => Bc 66 w_ w.heap.size (stL q v) ∧ Bc 66 w_ (w.heap.size + 1) (stL q_ v_)) (by kernel_rfl) ?_ (fun hHeld => ?_)
  · exact (by exact ⟨K1.out.below HBC.out, K2.out.below HBC.out⟩)
  refine tk 0 (hy := fun w_ h_ => ex_loadk (m := stL q v) rfl rfl h_.1 Tryz.underlying66 rfl (by kernel_rfl) rfl) (h := ?_)
  refine tk 2 (hy := fun w_ h_ => ex_loadk (m := stL q_ v_) rfl rfl h_.2 Tryz.underlying66 rfl (by kernel_rfl) rfl) (h := ?_)
  refine wpAnyH_ready (rs := [1]) (by kernel_rfl) (by simp) ?_
  refine AllReadyH.cons rfl (fun K hK => ?_) AllReadyH.nil
  go_simp
  go_at_call 71
  (with_reducible refine (plS_any q v _).mono ?_)
  rintro x w4 ⟨rfl, hb⟩
  have HBC := hide (bcall HBC.out hb)
  clear hb
  (try go_simp)
  refine hK.out _ _ (by exact ⟨K1.out.below HBC.out, K2.out.below HBC.out⟩) (fun hHeld => ?_)
  clear hK
  (try simp only [Act.put, List.setIfInBounds_toArray, List.set_cons_zero, List.set_cons_succ])
  refine wpAnyH_ready (rs := [3]) (by kernel_rfl) (by simp) ?_
  refine AllReadyH.cons rfl (fun K hK => ?_) AllReadyH.nil
  go_simp
  go_at_call 71
  (with_reducible refine (plS_any q_ v_ _).mono ?_)
  rintro x w4 ⟨rfl, hb⟩
  have HBC := hide (bcall HBC.out hb)
  clear hb
  (try go_simp)
  refine hK.out _ _ (by exact ⟨K1.out.below HBC.out, K2.out.below HBC.out⟩) (fun hHeld => ?_)
  clear hK
  (try simp only [Act.put, List.setIfInBounds_toArray, List.set_cons_zero, List.set_cons_succ])
  refine tk 4 (h := ?_)
  refine tk 5 (h := ?_)
  refine tk 6 (h := ?_)
  refine tk 7 (hy := fun w_ h_ => ex_loadk (m := [.int .i64 q.sl, hdV v.hob]) rfl rfl h_.1 Tryz.underlying24 rfl (by kernel_rfl) rfl) (h := ?_)
  refine tk 8 (h := ?_)
  refine tk 9 (hy := fun w_ h_ => ex_loadk (m := [.int .i64 q_.sl, hdV v_.hob]) rfl rfl h_.2 Tryz.underlying24 rfl (by kernel_rfl) rfl) (h := ?_)
  refine wpAnyH_ready (rs := [10]) (by kernel_rfl) (by simp) ?_
  refine AllReadyH.cons rfl (fun K hK => ?_) AllReadyH.nil
  go_simp
  go_at_call 72
  (with_reducible refine (sm_h q q_ v v_ _ (R1.out.below HBC.out) (R2.out.below HBC.out) _ Q1.out).mono ?_)
  rintro x w4 ⟨rfl, hb⟩
  have HBC := hide (bcall HBC.out hb)
  clear hb
  (try go_simp)
  refine hK.out _ _ (by exact ⟨K1.out.below HBC.out, K2.out.below HBC.out⟩) (fun hHeld => ?_)
  clear hK
  (try simp only [Act.put, List.setIfInBounds_toArray, List.set_cons_zero, List.set_cons_succ])
  refine tk 11 (h := ?_)
  refine tk 12 (h := ?_)
  refine tk 13 (h := ?_)
  refine tk 14 (hy := fun w_ h_ => ex_load1 rfl rfl h_.1 Tryz.underlying58 rfl rfl) (h := ?_)
  refine tk 15 (h := ?_)
  refine tk 16 (hy := fun w_ h_ => ex_load1 rfl rfl h_.2 Tryz.underlying58 rfl rfl) (h := ?_)
  refine wpAnyH_ready (rs := [17]) (by kernel_rfl) (by simp) ?_
  refine AllReadyH.cons rfl (fun K hK => ?_) AllReadyH.nil
  go_simp
  go_at_call 73
  (with_reducible refine (sm_m q q_ v v_ _ (R1.out.below HBC.out) (R2.out.below HBC.out) _ Q2.out).mono ?_)
  rintro x w4 ⟨rfl, hb⟩
  have HBC := hide (bcall HBC.out hb)
  clear hb
  (try go_simp)
  refine hK.out _ _ (by exact ⟨K1.out.below HBC.out, K2.out.below HBC.out⟩) (fun hHeld => ?_)
  clear hK
  (try simp only [Act.put, List.setIfInBounds_toArray, List.set_cons_zero, List.set_cons_succ])
  refine tk 18 (h := ?_)
  refine tk 19 (h := ?_)
  refine tu 20 (h := ?_)
  refine tu 21 (h := ?_)
  refine tu 22 (h := ?_)
  refine tu 23 (h := ?_)
  refine tu 24 (h := ?_)
  refine tk 25 (h := ?_)
  refine tk 26 (h := ?_)
  refine tu 27 (h := ?_)
  refine tu 28 (h := ?_)
  refine tu 29 (h := ?_)
  refine tu 30 (h := ?_)
  refine tu 31 (h := ?_)
  refine tk 32 (h := ?_)
  refine tk 33 (h := ?_)
  refine tu 34 (h := ?_)
  refine tu 35 (h := ?_)
  refine tu 36 (h := ?_)
  refine tu 37 (h := ?_)
  refine tu 38 (h := ?_)
  refine tk 39 (h := ?_)
  refine tk 40 (h := ?_)
  refine tu 41 (h := ?_)
  refine tu 42 (h := ?_)
  refine tu 43 (h := ?_)
  refine tu 44 (h := ?_)
  refine tu 45 (h := ?_)
  refine tk 46 (h := ?_)
  refine tk 47 (h := ?_)
  refine tu 48 (h := ?_)
  refine tu 49 (h := ?_)
  refine tu 50 (h := ?_)
  refine tu 51 (h := ?_)
  refine tu 52 (h := ?_)
  refine tk 53 (h := ?_)
  refine tk 54 (h := ?_)
  refine tu 55 (h := ?_)
  refine tu 56 (h := ?_)
  refine tu 57 (h := ?_)
  refine tu 58 (h := ?_)
  refine tu 59 (h := ?_)
  refine tk 60 (h := ?_)
  refine tk 61 (h := ?_)
  refine wpAnyH_done (by kernel_rfl) ?_ _
  go_wp2
  go_ret
  exact ⟨rfl, bcall HB.out HBC.out⟩
set_option maxRecDepth 100000 in
set_option maxHeartbeats 16000000 in
theorem smS_3 (q q_ : Sq) (v v_ : Sv) (w w1 : World) (HE : Hid ((w.alloc (.cells ((stL q v)).toArray 66)).alloc (.cells ((stL q_ v_)).toArray 66) = w1)) (K1 : Hid (Bc 66 w1 w.heap.size (stL q v))) (K2 : Hid (Bc 66 w1 (w.heap.size + 1) (stL q_ v_))) (HB : Hid (Below w.heap.size w w1)) (R1 : Hid (StR w1 v q)) (R2 : Hid (StR w1 v_ q_)) (Q0 : Hid (decide (PlS q q_) = true)) (Q1 : Hid (decide (q.sl = q_.sl ∧ q.ob = q_.ob) = true)) (Q2 : Hid (decide (q.m = q_.m) = true)) (Q3 : Hid (decide (q.bins = q_.bins) = false)) :
    Calls Tryz.prog 24 #[.agg ((stL q v)).toArray, .agg ((stL q_ v_)).toArray] w fun x w' => x = .returned (.bool false) ∧ Below w.heap.size w w' := by
  have HBC := hide (show Below w1.heap.size w1 w1.drew from ⟨rfl, rfl, rfl, Nat.le_refl _, fun _ _ => rfl⟩)
  have hq0 := eql_ps q q_
  rw [Q0.out] at hq0
  go_enter Tryz.func24, Tryz.ntmps24
  go_upto_region 1 with (fail)
  rw [HE.out]
  (try simp only [List.append_eq, List.cons_append, List.nil_append])
  refine wp_region_held_drew (S := fun w_ => Bc 66 w_ w.heap.size (stL q v) ∧ Bc 66 w_ (w.heap.size + 1) (stL q_ v_)) (by kernel_rfl) ?_ (fun hHeld => ?_)
  · exact (by exact ⟨K1.out.below HBC.out, K2.out.below HBC.out⟩)
  refine tk 0 (hy := fun w_ h_ => ex_loadk (m := stL q v) rfl rfl h_.1 Tryz.underlying66 rfl (by kernel_rfl) rfl) (h := ?_)
  refine tk 2 (hy := fun w_ h_ => ex_loadk (m := stL q_ v_) rfl rfl h_.2 Tryz.underlying66 rfl (by kernel_rfl) rfl) (h := ?_)
  refine wpAnyH_ready (rs := [1]) (by kernel_rfl) (by simp) ?_
  refine AllReadyH.cons rfl (fun K hK => ?_) AllReadyH.nil
  go_simp
  go_at_call 71
  (with_reducible refine (plS_any q v _).mono ?_)
  rintro x w4 ⟨rfl, hb⟩
  have HBC := hide (bcall HBC.out hb)
  clear hb
  (try go_simp)
  refine hK.out _ _ (by exact ⟨K1.out.below HBC.out, K2.out.below HBC.out⟩) (fun hHeld => ?_)
  clear hK
  (try simp only [Act.put, List.setIfInBounds_toArray, List.set_cons_zero, List.set_cons_succ])
  refine wpAnyH_ready (rs := [3]) (by kernel_rfl) (by simp) ?_
  refine AllReadyH.cons rfl (fun K hK => ?_) AllReadyH.nil
  go_simp
  go_at_call 71
  (with_reducible refine (plS_any q_ v_ _).mono ?_)
  rintro x w4 ⟨rfl, hb⟩
  have HBC := hide (bcall HBC.out hb)
  clear hb
  (try go_simp)
  refine hK.out _ _ (by exact ⟨K1.out.below HBC.out, K2.out.below HBC.out⟩) (fun hHeld => ?_)
  clear hK
  (try simp only [Act.put, List.setIfInBounds_toArray, List.set_cons_zero, List.set_cons_succ])
  refine tk 4 (h := ?_)
  refine tk 5 (h := ?_)
  refine tk 6 (h := ?_)
  refine tk 7 (hy := fun w_ h_ => ex_loadk (m := [.int .i64 q.sl, hdV v.hob]) rfl rfl h_.1 Tryz.underlying24 rfl (by kernel_rfl) rfl) (h := ?_)
  refine tk 8 (h := ?_)
  refine tk 9 (hy := fun w_ h_ => ex_loadk (m := [.int .i64 q_.sl, hdV v_.hob]) rfl rfl h_.2 Tryz.underlying24 rfl (by kernel_rfl) rfl) (h := ?_)
  refine wpAnyH_ready (rs := [10]) (by kernel_rfl) (by simp) ?_
  refine AllReadyH.cons rfl (fun K hK => ?_) AllReadyH.nil
  go_simp
  go_at_call 72
  (with_reducible refine (sm_h q q_ v v_ _ (R1.out.below HBC.out) (R2.out.below HBC.out) _ Q1.out).mono ?_)
  rintro x w4 ⟨rfl, hb⟩
  have HBC := hide (bcall HBC.out hb)
  clear hb
  (try go_simp)
  refine hK.out _ _ (by exact ⟨K1.out.below HBC.out, K2.out.below HBC.out⟩) (fun hHeld => ?_)
  clear hK
  (try simp only [Act.put, List.setIfInBounds_toArray, List.set_cons_zero, List.set_cons_succ])
  refine tk 11 (h := ?_)
  refine tk 12 (h := ?_)
  refine tk 13 (h := ?_)
  refine tk 14 (hy := fun w_ h_ => ex_load1 rfl rfl h_.1 Tryz.underlying58 rfl rfl) (h := ?_)
  refine tk 15 (h := ?_)
  refine tk 16 (hy := fun w_ h_ => ex_load1 rfl rfl h_.2 Tryz.underlying58 rfl rfl) (h := ?_)
  refine wpAnyH_ready (rs := [17]) (by kernel_rfl) (by simp) ?_
  refine AllReadyH.cons rfl (fun K hK => ?_) AllReadyH.nil
  go_simp
  go_at_call 73
  (with_reducible refine (sm_m q q_ v v_ _ (R1.out.below HBC.out) (R2.out.below HBC.out) _ Q2.out).mono ?_)
  rintro x w4 ⟨rfl, hb⟩
  have HBC := hide (bcall HBC.out hb)
  clear hb
  (try go_simp)
  refine hK.out _ _ (by exact ⟨K1.out.below HBC.out, K2.out.below HBC.out⟩) (fun hHeld => ?_)
  clear hK
  (try simp only [Act.put, List.setIfInBounds_toArray, List.set_cons_zero, List.set_cons_succ])
  refine tk 18 (h := ?_)
  refine tk 19 (h := ?_)
  refine tk 20 (h := ?_)
  refine tk 21 (hy := fun w_ h_ => ex_load1 rfl rfl h_.1 Tryz.underlying22 rfl rfl) (h := ?_)
  refine tk 22 (h := ?_)
  refine tk 23 (hy := fun w_ h_ => ex_load1 rfl rfl h_.2 Tryz.underlying22 rfl rfl) (h := ?_)
  refine wpAnyH_ready (rs := [24]) (by kernel_rfl) (by simp) ?_
  refine AllReadyH.cons rfl (fun K hK => ?_) AllReadyH.nil
  go_simp
  go_at_call 74
  (with_reducible refine (sm_b q q_ v v_ _ (R1.out.below HBC.out) (R2.out.below HBC.out) _ Q3.out).mono ?_)
  rintro x w4 ⟨rfl, hb⟩
  have HBC := hide (bcall HBC.out hb)
  clear hb
  (try go_simp)
  refine hK.out _ _ (by exact ⟨K1.out.below HBC.out, K2.out.below HBC.out⟩) (fun hHeld => ?_)
  clear hK
  (try simp only [Act.put, List.setIfInBounds_toArray, List.set_cons_zero, List.set_cons_succ])
  refine tk 25 (h := ?_)
  refine tk 26 (h := ?_)
  refine tu 27 (h := ?_)
  refine tu 28 (h := ?_)
  refine tu 29 (h := ?_)
  refine tu 30 (h := ?_)
  refine tu 31 (h := ?_)
  refine tk 32 (h := ?_)
  refine tk 33 (h := ?_)
  refine tu 34 (h := ?_)
  refine tu 35 (h := ?_)
  refine tu 36 (h := ?_)
  refine tu 37 (h := ?_)
  refine tu 38 (h := ?_)
  refine tk 39 (h := ?_)
  refine tk 40 (h := ?_)
  refine tu 41 (h := ?_)
  refine tu 42 (h := ?_)
  refine tu 43 (h := ?_)
  refine tu 44 (h := ?_)
  refine tu 45 (h := ?_)
  refine tk 46 (h := ?_)
  refine tk 47 (h := ?_)
  refine tu 48 (h := ?_)
  refine tu 49 (h := ?_)
  refine tu 50 (h := ?_)
  refine tu 51 (h := ?_)
  refine tu 52 (h := ?_)
  refine tk 53 (h := ?_)
  refine tk 54 (h := ?_)
  refine tu 55 (h := ?_)
  refine tu 56 (h := ?_)
  refine tu 57 (h := ?_)
  refine tu 58 (h := ?_)
  refine tu 59 (h := ?_)
  refine tk 60 (h := ?_)
  refine tk 61 (h := ?_)
  refine wpAnyH_done (by kernel_rfl) ?_ _
  go_wp2
  go_ret
  exact ⟨rfl, bcall HB.out HBC.out⟩
end Go.Proofs.YtdmbcjckgfjcaaaGreatDoor
/- Layer state: Same, by its first conjunct that is false. Written by tools/genstate7.py. -/
namespace Go.Proofs.YtdmbcjckgfjcaaaGreatDoor
open Go.RowKit Go.Joins Go.Shelf
set_option maxRecDepth 100000 in
set_option maxHeartbeats 16000000 in
theorem smS_4 (q q_ : Sq) (v v_ : Sv) (w w1 : World) (HE : Hid ((w.alloc (.cells ((stL q v)).toArray 66)).alloc (.cells ((stL q_ v_)).toArray 66) = w1)) (K1 : Hid (Bc 66 w1 w.heap.size (stL q v))) (K2 : Hid (Bc 66 w1 (w.heap.size + 1) (stL q_ v_))) (HB : Hid (Below w.heap.size w w1)) (R1 : Hid (StR w1 v q)) (R2 : Hid (StR w1 v_ q_)) (Q0 : Hid (decide (PlS q q_) = true)) (Q1 : Hid (decide (q.sl = q_.sl ∧ q.ob = q_.ob) = true)) (Q2 : Hid (decide (q.m = q_.m) = true)) (Q3 : Hid (decide (q.bins = q_.bins) = true)) (Q4 : Hid (decide (q.acks = q_.acks) = false)) :
    Calls Tryz.prog 24 #[.agg ((stL q v)).toArray, .agg ((stL q_ v_)).toArray] w fun x w' => x = .returned (.bool false) ∧ Below w.heap.size w w' := by
  have HBC := hide (show Below w1.heap.size w1 w1.drew from ⟨rfl, rfl, rfl, Nat.le_refl _, fun _ _ => rfl⟩)
  have hq0 := eql_ps q q_
  rw [Q0.out] at hq0
  go_enter Tryz.func24, Tryz.ntmps24
  go_upto_region 1 with (fail)
  rw [HE.out]
  (try simp only [List.append_eq, List.cons_append, List.nil_append])
  refine wp_region_held_drew (S := fun w_ => Bc 66 w_ w.heap.size (stL q v) ∧ Bc 66 w_ (w.heap.size + 1) (stL q_ v_)) (by kernel_rfl) ?_ (fun hHeld => ?_)
  · exact (by exact ⟨K1.out.below HBC.out, K2.out.below HBC.out⟩)
  refine tk 0 (hy := fun w_ h_ => ex_loadk (m := stL q v) rfl rfl h_.1 Tryz.underlying66 rfl (by kernel_rfl) rfl) (h := ?_)
  refine tk 2 (hy := fun w_ h_ => ex_loadk (m := stL q_ v_) rfl rfl h_.2 Tryz.underlying66 rfl (by kernel_rfl) rfl) (h := ?_)
  refine wpAnyH_ready (rs := [1]) (by kernel_rfl) (by simp) ?_
  refine AllReadyH.cons rfl (fun K hK => ?_) AllReadyH.nil
  go_simp
  go_at_call 71
  (with_reducible refine (plS_any q v _).mono ?_)
  rintro x w4 ⟨rfl, hb⟩
  have HBC := hide (bcall HBC.out hb)
  clear hb
  (try go_simp)
  refine hK.out _ _ (by exact ⟨K1.out.below HBC.out, K2.out.below HBC.out⟩) (fun hHeld => ?_)
  clear hK
  (try simp only [Act.put, List.setIfInBounds_toArray, List.set_cons_zero, List.set_cons_succ])
  refine wpAnyH_ready (rs := [3]) (by kernel_rfl) (by simp) ?_
  refine AllReadyH.cons rfl (fun K hK => ?_) AllReadyH.nil
  go_simp
  go_at_call 71
  (with_reducible refine (plS_any q_ v_ _).mono ?_)
  rintro x w4 ⟨rfl, hb⟩
  have HBC := hide (bcall HBC.out hb)
  clear hb
  (try go_simp)
  refine hK.out _ _ (by exact ⟨K1.out.below HBC.out, K2.out.below HBC.out⟩) (fun hHeld => ?_)
  clear hK
  (try simp only [Act.put, List.setIfInBounds_toArray, List.set_cons_zero, List.set_cons_succ])
  refine tk 4 (h := ?_)
  refine tk 5 (h := ?_)
  refine tk 6 (h := ?_)
  refine tk 7 (hy := fun w_ h_ => ex_loadk (m := [.int .i64 q.sl, hdV v.hob]) rfl rfl h_.1 Tryz.underlying24 rfl (by kernel_rfl) rfl) (h := ?_)
  refine tk 8 (h := ?_)
  refine tk 9 (hy := fun w_ h_ => ex_loadk (m := [.int .i64 q_.sl, hdV v_.hob]) rfl rfl h_.2 Tryz.underlying24 rfl (by kernel_rfl) rfl) (h := ?_)
  refine wpAnyH_ready (rs := [10]) (by kernel_rfl) (by simp) ?_
  refine AllReadyH.cons rfl (fun K hK => ?_) AllReadyH.nil
  go_simp
  go_at_call 72
  (with_reducible refine (sm_h q q_ v v_ _ (R1.out.below HBC.out) (R2.out.below HBC.out) _ Q1.out).mono ?_)
  rintro x w4 ⟨rfl, hb⟩
  have HBC := hide (bcall HBC.out hb)
  clear hb
  (try go_simp)
  refine hK.out _ _ (by exact ⟨K1.out.below HBC.out, K2.out.below HBC.out⟩) (fun hHeld => ?_)
  clear hK
  (try simp only [Act.put, List.setIfInBounds_toArray, List.set_cons_zero, List.set_cons_succ])
  refine tk 11 (h := ?_)
  refine tk 12 (h := ?_)
  refine tk 13 (h := ?_)
  refine tk 14 (hy := fun w_ h_ => ex_load1 rfl rfl h_.1 Tryz.underlying58 rfl rfl) (h := ?_)
  refine tk 15 (h := ?_)
  refine tk 16 (hy := fun w_ h_ => ex_load1 rfl rfl h_.2 Tryz.underlying58 rfl rfl) (h := ?_)
  refine wpAnyH_ready (rs := [17]) (by kernel_rfl) (by simp) ?_
  refine AllReadyH.cons rfl (fun K hK => ?_) AllReadyH.nil
  go_simp
  go_at_call 73
  (with_reducible refine (sm_m q q_ v v_ _ (R1.out.below HBC.out) (R2.out.below HBC.out) _ Q2.out).mono ?_)
  rintro x w4 ⟨rfl, hb⟩
  have HBC := hide (bcall HBC.out hb)
  clear hb
  (try go_simp)
  refine hK.out _ _ (by exact ⟨K1.out.below HBC.out, K2.out.below HBC.out⟩) (fun hHeld => ?_)
  clear hK
  (try simp only [Act.put, List.setIfInBounds_toArray, List.set_cons_zero, List.set_cons_succ])
  refine tk 18 (h := ?_)
  refine tk 19 (h := ?_)
  refine tk 20 (h := ?_)
  refine tk 21 (hy := fun w_ h_ => ex_load1 rfl rfl h_.1 Tryz.underlying22 rfl rfl) (h := ?_)
  refine tk 22 (h := ?_)
  refine tk 23 (hy := fun w_ h_ => ex_load1 rfl rfl h_.2 Tryz.underlying22 rfl rfl) (h := ?_)
  refine wpAnyH_ready (rs := [24]) (by kernel_rfl) (by simp) ?_
  refine AllReadyH.cons rfl (fun K hK => ?_) AllReadyH.nil
  go_simp
  go_at_call 74
  (with_reducible refine (sm_b q q_ v v_ _ (R1.out.below HBC.out) (R2.out.below HBC.out) _ Q3.out).mono ?_)
  rintro x w4 ⟨rfl, hb⟩
  have HBC := hide (bcall HBC.out hb)
  clear hb
  (try go_simp)
  refine hK.out _ _ (by exact ⟨K1.out.below HBC.out, K2.out.below HBC.out⟩) (fun hHeld => ?_)
  clear hK
  (try simp only [Act.put, List.setIfInBounds_toArray, List.set_cons_zero, List.set_cons_succ])
  refine tk 25 (h := ?_)
  refine tk 26 (h := ?_)
  refine tk 27 (h := ?_)
  refine tk 28 (hy := fun w_ h_ => ex_load1 rfl rfl h_.1 Tryz.underlying47 rfl rfl) (h := ?_)
  refine tk 29 (h := ?_)
  refine tk 30 (hy := fun w_ h_ => ex_load1 rfl rfl h_.2 Tryz.underlying47 rfl rfl) (h := ?_)
  refine wpAnyH_ready (rs := [31]) (by kernel_rfl) (by simp) ?_
  refine AllReadyH.cons rfl (fun K hK => ?_) AllReadyH.nil
  go_simp
  go_at_call 75
  (with_reducible refine (sm_a q q_ v v_ _ (R1.out.below HBC.out) (R2.out.below HBC.out) _ Q4.out).mono ?_)
  rintro x w4 ⟨rfl, hb⟩
  have HBC := hide (bcall HBC.out hb)
  clear hb
  (try go_simp)
  refine hK.out _ _ (by exact ⟨K1.out.below HBC.out, K2.out.below HBC.out⟩) (fun hHeld => ?_)
  clear hK
  (try simp only [Act.put, List.setIfInBounds_toArray, List.set_cons_zero, List.set_cons_succ])
  refine tk 32 (h := ?_)
  refine tk 33 (h := ?_)
  refine tu 34 (h := ?_)
  refine tu 35 (h := ?_)
  refine tu 36 (h := ?_)
  refine tu 37 (h := ?_)
  refine tu 38 (h := ?_)
  refine tk 39 (h := ?_)
  refine tk 40 (h := ?_)
  refine tu 41 (h := ?_)
  refine tu 42 (h := ?_)
  refine tu 43 (h := ?_)
  refine tu 44 (h := ?_)
  refine tu 45 (h := ?_)
  refine tk 46 (h := ?_)
  refine tk 47 (h := ?_)
  refine tu 48 (h := ?_)
  refine tu 49 (h := ?_)
  refine tu 50 (h := ?_)
  refine tu 51 (h := ?_)
  refine tu 52 (h := ?_)
  refine tk 53 (h := ?_)
  refine tk 54 (h := ?_)
  refine tu 55 (h := ?_)
  refine tu 56 (h := ?_)
  refine tu 57 (h := ?_)
  refine tu 58 (h := ?_)
  refine tu 59 (h := ?_)
  refine tk 60 (h := ?_)
  refine tk 61 (h := ?_)
  refine wpAnyH_done (by kernel_rfl) ?_ _
  go_wp2
  go_ret
  exact ⟨rfl, bcall HB.out HBC.out⟩
set_option maxRecDepth 100000 in
set_option maxHeartbeats 16000000 in
theorem smS_5 (q q_ : Sq) (v v_ : Sv) (w w1 : World) (HE : Hid ((w.alloc (.cells ((stL q v)).toArray 66)).alloc (.cells ((stL q_ v_)).toArray 66) = w1)) (K1 : Hid (Bc 66 w1 w.heap.size (stL q v))) (K2 : Hid (Bc 66 w1 (w.heap.size + 1) (stL q_ v_))) (HB : Hid (Below w.heap.size w w1)) (R1 : Hid (StR w1 v q)) (R2 : Hid (StR w1 v_ q_)) (Q0 : Hid (decide (PlS q q_) = true)) (Q1 : Hid (decide (q.sl = q_.sl ∧ q.ob = q_.ob) = true)) (Q2 : Hid (decide (q.m = q_.m) = true)) (Q3 : Hid (decide (q.bins = q_.bins) = true)) (Q4 : Hid (decide (q.acks = q_.acks) = true)) (Q5 : Hid (decide (q.l = q_.l) = false)) :
    Calls Tryz.prog 24 #[.agg ((stL q v)).toArray, .agg ((stL q_ v_)).toArray] w fun x w' => x = .returned (.bool false) ∧ Below w.heap.size w w' := by
  have HBC := hide (show Below w1.heap.size w1 w1.drew from ⟨rfl, rfl, rfl, Nat.le_refl _, fun _ _ => rfl⟩)
  have hq0 := eql_ps q q_
  rw [Q0.out] at hq0
  go_enter Tryz.func24, Tryz.ntmps24
  go_upto_region 1 with (fail)
  rw [HE.out]
  (try simp only [List.append_eq, List.cons_append, List.nil_append])
  refine wp_region_held_drew (S := fun w_ => Bc 66 w_ w.heap.size (stL q v) ∧ Bc 66 w_ (w.heap.size + 1) (stL q_ v_)) (by kernel_rfl) ?_ (fun hHeld => ?_)
  · exact (by exact ⟨K1.out.below HBC.out, K2.out.below HBC.out⟩)
  refine tk 0 (hy := fun w_ h_ => ex_loadk (m := stL q v) rfl rfl h_.1 Tryz.underlying66 rfl (by kernel_rfl) rfl) (h := ?_)
  refine tk 2 (hy := fun w_ h_ => ex_loadk (m := stL q_ v_) rfl rfl h_.2 Tryz.underlying66 rfl (by kernel_rfl) rfl) (h := ?_)
  refine wpAnyH_ready (rs := [1]) (by kernel_rfl) (by simp) ?_
  refine AllReadyH.cons rfl (fun K hK => ?_) AllReadyH.nil
  go_simp
  go_at_call 71
  (with_reducible refine (plS_any q v _).mono ?_)
  rintro x w4 ⟨rfl, hb⟩
  have HBC := hide (bcall HBC.out hb)
  clear hb
  (try go_simp)
  refine hK.out _ _ (by exact ⟨K1.out.below HBC.out, K2.out.below HBC.out⟩) (fun hHeld => ?_)
  clear hK
  (try simp only [Act.put, List.setIfInBounds_toArray, List.set_cons_zero, List.set_cons_succ])
  refine wpAnyH_ready (rs := [3]) (by kernel_rfl) (by simp) ?_
  refine AllReadyH.cons rfl (fun K hK => ?_) AllReadyH.nil
  go_simp
  go_at_call 71
  (with_reducible refine (plS_any q_ v_ _).mono ?_)
  rintro x w4 ⟨rfl, hb⟩
  have HBC := hide (bcall HBC.out hb)
  clear hb
  (try go_simp)
  refine hK.out _ _ (by exact ⟨K1.out.below HBC.out, K2.out.below HBC.out⟩) (fun hHeld => ?_)
  clear hK
  (try simp only [Act.put, List.setIfInBounds_toArray, List.set_cons_zero, List.set_cons_succ])
  refine tk 4 (h := ?_)
  refine tk 5 (h := ?_)
  refine tk 6 (h := ?_)
  refine tk 7 (hy := fun w_ h_ => ex_loadk (m := [.int .i64 q.sl, hdV v.hob]) rfl rfl h_.1 Tryz.underlying24 rfl (by kernel_rfl) rfl) (h := ?_)
  refine tk 8 (h := ?_)
  refine tk 9 (hy := fun w_ h_ => ex_loadk (m := [.int .i64 q_.sl, hdV v_.hob]) rfl rfl h_.2 Tryz.underlying24 rfl (by kernel_rfl) rfl) (h := ?_)
  refine wpAnyH_ready (rs := [10]) (by kernel_rfl) (by simp) ?_
  refine AllReadyH.cons rfl (fun K hK => ?_) AllReadyH.nil
  go_simp
  go_at_call 72
  (with_reducible refine (sm_h q q_ v v_ _ (R1.out.below HBC.out) (R2.out.below HBC.out) _ Q1.out).mono ?_)
  rintro x w4 ⟨rfl, hb⟩
  have HBC := hide (bcall HBC.out hb)
  clear hb
  (try go_simp)
  refine hK.out _ _ (by exact ⟨K1.out.below HBC.out, K2.out.below HBC.out⟩) (fun hHeld => ?_)
  clear hK
  (try simp only [Act.put, List.setIfInBounds_toArray, List.set_cons_zero, List.set_cons_succ])
  refine tk 11 (h := ?_)
  refine tk 12 (h := ?_)
  refine tk 13 (h := ?_)
  refine tk 14 (hy := fun w_ h_ => ex_load1 rfl rfl h_.1 Tryz.underlying58 rfl rfl) (h := ?_)
  refine tk 15 (h := ?_)
  refine tk 16 (hy := fun w_ h_ => ex_load1 rfl rfl h_.2 Tryz.underlying58 rfl rfl) (h := ?_)
  refine wpAnyH_ready (rs := [17]) (by kernel_rfl) (by simp) ?_
  refine AllReadyH.cons rfl (fun K hK => ?_) AllReadyH.nil
  go_simp
  go_at_call 73
  (with_reducible refine (sm_m q q_ v v_ _ (R1.out.below HBC.out) (R2.out.below HBC.out) _ Q2.out).mono ?_)
  rintro x w4 ⟨rfl, hb⟩
  have HBC := hide (bcall HBC.out hb)
  clear hb
  (try go_simp)
  refine hK.out _ _ (by exact ⟨K1.out.below HBC.out, K2.out.below HBC.out⟩) (fun hHeld => ?_)
  clear hK
  (try simp only [Act.put, List.setIfInBounds_toArray, List.set_cons_zero, List.set_cons_succ])
  refine tk 18 (h := ?_)
  refine tk 19 (h := ?_)
  refine tk 20 (h := ?_)
  refine tk 21 (hy := fun w_ h_ => ex_load1 rfl rfl h_.1 Tryz.underlying22 rfl rfl) (h := ?_)
  refine tk 22 (h := ?_)
  refine tk 23 (hy := fun w_ h_ => ex_load1 rfl rfl h_.2 Tryz.underlying22 rfl rfl) (h := ?_)
  refine wpAnyH_ready (rs := [24]) (by kernel_rfl) (by simp) ?_
  refine AllReadyH.cons rfl (fun K hK => ?_) AllReadyH.nil
  go_simp
  go_at_call 74
  (with_reducible refine (sm_b q q_ v v_ _ (R1.out.below HBC.out) (R2.out.below HBC.out) _ Q3.out).mono ?_)
  rintro x w4 ⟨rfl, hb⟩
  have HBC := hide (bcall HBC.out hb)
  clear hb
  (try go_simp)
  refine hK.out _ _ (by exact ⟨K1.out.below HBC.out, K2.out.below HBC.out⟩) (fun hHeld => ?_)
  clear hK
  (try simp only [Act.put, List.setIfInBounds_toArray, List.set_cons_zero, List.set_cons_succ])
  refine tk 25 (h := ?_)
  refine tk 26 (h := ?_)
  refine tk 27 (h := ?_)
  refine tk 28 (hy := fun w_ h_ => ex_load1 rfl rfl h_.1 Tryz.underlying47 rfl rfl) (h := ?_)
  refine tk 29 (h := ?_)
  refine tk 30 (hy := fun w_ h_ => ex_load1 rfl rfl h_.2 Tryz.underlying47 rfl rfl) (h := ?_)
  refine wpAnyH_ready (rs := [31]) (by kernel_rfl) (by simp) ?_
  refine AllReadyH.cons rfl (fun K hK => ?_) AllReadyH.nil
  go_simp
  go_at_call 75
  (with_reducible refine (sm_a q q_ v v_ _ (R1.out.below HBC.out) (R2.out.below HBC.out) _ Q4.out).mono ?_)
  rintro x w4 ⟨rfl, hb⟩
  have HBC := hide (bcall HBC.out hb)
  clear hb
  (try go_simp)
  refine hK.out _ _ (by exact ⟨K1.out.below HBC.out, K2.out.below HBC.out⟩) (fun hHeld => ?_)
  clear hK
  (try simp only [Act.put, List.setIfInBounds_toArray, List.set_cons_zero, List.set_cons_succ])
  refine tk 32 (h := ?_)
  refine tk 33 (h := ?_)
  refine tk 34 (h := ?_)
  refine tk 35 (hy := fun w_ h_ => ex_loadk (m := [.int .i64 q.l.scanned, .int .i64 q.l.spent, .int .i64 q.l.pool, hdV v.bl]) rfl rfl h_.1 Tryz.underlying61 rfl (by kernel_rfl) rfl) (h := ?_)
  refine tk 36 (h := ?_)
  refine tk 37 (hy := fun w_ h_ => ex_loadk (m := [.int .i64 q_.l.scanned, .int .i64 q_.l.spent, .int .i64 q_.l.pool, hdV v_.bl]) rfl rfl h_.2 Tryz.underlying61 rfl (by kernel_rfl) rfl) (h := ?_)
  refine wpAnyH_ready (rs := [38]) (by kernel_rfl) (by simp) ?_
  refine AllReadyH.cons rfl (fun K hK => ?_) AllReadyH.nil
  go_simp
  go_at_call 76
  (with_reducible refine (sm_l q q_ v v_ _ (R1.out.below HBC.out) (R2.out.below HBC.out) _ Q5.out).mono ?_)
  rintro x w4 ⟨rfl, hb⟩
  have HBC := hide (bcall HBC.out hb)
  clear hb
  (try go_simp)
  refine hK.out _ _ (by exact ⟨K1.out.below HBC.out, K2.out.below HBC.out⟩) (fun hHeld => ?_)
  clear hK
  (try simp only [Act.put, List.setIfInBounds_toArray, List.set_cons_zero, List.set_cons_succ])
  refine tk 39 (h := ?_)
  refine tk 40 (h := ?_)
  refine tu 41 (h := ?_)
  refine tu 42 (h := ?_)
  refine tu 43 (h := ?_)
  refine tu 44 (h := ?_)
  refine tu 45 (h := ?_)
  refine tk 46 (h := ?_)
  refine tk 47 (h := ?_)
  refine tu 48 (h := ?_)
  refine tu 49 (h := ?_)
  refine tu 50 (h := ?_)
  refine tu 51 (h := ?_)
  refine tu 52 (h := ?_)
  refine tk 53 (h := ?_)
  refine tk 54 (h := ?_)
  refine tu 55 (h := ?_)
  refine tu 56 (h := ?_)
  refine tu 57 (h := ?_)
  refine tu 58 (h := ?_)
  refine tu 59 (h := ?_)
  refine tk 60 (h := ?_)
  refine tk 61 (h := ?_)
  refine wpAnyH_done (by kernel_rfl) ?_ _
  go_wp2
  go_ret
  exact ⟨rfl, bcall HB.out HBC.out⟩
set_option maxRecDepth 100000 in
set_option maxHeartbeats 16000000 in
theorem smS_6 (q q_ : Sq) (v v_ : Sv) (w w1 : World) (HE : Hid ((w.alloc (.cells ((stL q v)).toArray 66)).alloc (.cells ((stL q_ v_)).toArray 66) = w1)) (K1 : Hid (Bc 66 w1 w.heap.size (stL q v))) (K2 : Hid (Bc 66 w1 (w.heap.size + 1) (stL q_ v_))) (HB : Hid (Below w.heap.size w w1)) (R1 : Hid (StR w1 v q)) (R2 : Hid (StR w1 v_ q_)) (Q0 : Hid (decide (PlS q q_) = true)) (Q1 : Hid (decide (q.sl = q_.sl ∧ q.ob = q_.ob) = true)) (Q2 : Hid (decide (q.m = q_.m) = true)) (Q3 : Hid (decide (q.bins = q_.bins) = true)) (Q4 : Hid (decide (q.acks = q_.acks) = true)) (Q5 : Hid (decide (q.l = q_.l) = true)) (Q6 : Hid (decide (q.ws = q_.ws) = false)) :
    Calls Tryz.prog 24 #[.agg ((stL q v)).toArray, .agg ((stL q_ v_)).toArray] w fun x w' => x = .returned (.bool false) ∧ Below w.heap.size w w' := by
  have HBC := hide (show Below w1.heap.size w1 w1.drew from ⟨rfl, rfl, rfl, Nat.le_refl _, fun _ _ => rfl⟩)
  have hq0 := eql_ps q q_
  rw [Q0.out] at hq0
  go_enter Tryz.func24, Tryz.ntmps24
  go_upto_region 1 with (fail)
  rw [HE.out]
  (try simp only [List.append_eq, List.cons_append, List.nil_append])
  refine wp_region_held_drew (S := fun w_ => Bc 66 w_ w.heap.size (stL q v) ∧ Bc 66 w_ (w.heap.size + 1) (stL q_ v_)) (by kernel_rfl) ?_ (fun hHeld => ?_)
  · exact (by exact ⟨K1.out.below HBC.out, K2.out.below HBC.out⟩)
  refine tk 0 (hy := fun w_ h_ => ex_loadk (m := stL q v) rfl rfl h_.1 Tryz.underlying66 rfl (by kernel_rfl) rfl) (h := ?_)
  refine tk 2 (hy := fun w_ h_ => ex_loadk (m := stL q_ v_) rfl rfl h_.2 Tryz.underlying66 rfl (by kernel_rfl) rfl) (h := ?_)
  refine wpAnyH_ready (rs := [1]) (by kernel_rfl) (by simp) ?_
  refine AllReadyH.cons rfl (fun K hK => ?_) AllReadyH.nil
  go_simp
  go_at_call 71
  (with_reducible refine (plS_any q v _).mono ?_)
  rintro x w4 ⟨rfl, hb⟩
  have HBC := hide (bcall HBC.out hb)
  clear hb
  (try go_simp)
  refine hK.out _ _ (by exact ⟨K1.out.below HBC.out, K2.out.below HBC.out⟩) (fun hHeld => ?_)
  clear hK
  (try simp only [Act.put, List.setIfInBounds_toArray, List.set_cons_zero, List.set_cons_succ])
  refine wpAnyH_ready (rs := [3]) (by kernel_rfl) (by simp) ?_
  refine AllReadyH.cons rfl (fun K hK => ?_) AllReadyH.nil
  go_simp
  go_at_call 71
  (with_reducible refine (plS_any q_ v_ _).mono ?_)
  rintro x w4 ⟨rfl, hb⟩
  have HBC := hide (bcall HBC.out hb)
  clear hb
  (try go_simp)
  refine hK.out _ _ (by exact ⟨K1.out.below HBC.out, K2.out.below HBC.out⟩) (fun hHeld => ?_)
  clear hK
  (try simp only [Act.put, List.setIfInBounds_toArray, List.set_cons_zero, List.set_cons_succ])
  refine tk 4 (h := ?_)
  refine tk 5 (h := ?_)
  refine tk 6 (h := ?_)
  refine tk 7 (hy := fun w_ h_ => ex_loadk (m := [.int .i64 q.sl, hdV v.hob]) rfl rfl h_.1 Tryz.underlying24 rfl (by kernel_rfl) rfl) (h := ?_)
  refine tk 8 (h := ?_)
  refine tk 9 (hy := fun w_ h_ => ex_loadk (m := [.int .i64 q_.sl, hdV v_.hob]) rfl rfl h_.2 Tryz.underlying24 rfl (by kernel_rfl) rfl) (h := ?_)
  refine wpAnyH_ready (rs := [10]) (by kernel_rfl) (by simp) ?_
  refine AllReadyH.cons rfl (fun K hK => ?_) AllReadyH.nil
  go_simp
  go_at_call 72
  (with_reducible refine (sm_h q q_ v v_ _ (R1.out.below HBC.out) (R2.out.below HBC.out) _ Q1.out).mono ?_)
  rintro x w4 ⟨rfl, hb⟩
  have HBC := hide (bcall HBC.out hb)
  clear hb
  (try go_simp)
  refine hK.out _ _ (by exact ⟨K1.out.below HBC.out, K2.out.below HBC.out⟩) (fun hHeld => ?_)
  clear hK
  (try simp only [Act.put, List.setIfInBounds_toArray, List.set_cons_zero, List.set_cons_succ])
  refine tk 11 (h := ?_)
  refine tk 12 (h := ?_)
  refine tk 13 (h := ?_)
  refine tk 14 (hy := fun w_ h_ => ex_load1 rfl rfl h_.1 Tryz.underlying58 rfl rfl) (h := ?_)
  refine tk 15 (h := ?_)
  refine tk 16 (hy := fun w_ h_ => ex_load1 rfl rfl h_.2 Tryz.underlying58 rfl rfl) (h := ?_)
  refine wpAnyH_ready (rs := [17]) (by kernel_rfl) (by simp) ?_
  refine AllReadyH.cons rfl (fun K hK => ?_) AllReadyH.nil
  go_simp
  go_at_call 73
  (with_reducible refine (sm_m q q_ v v_ _ (R1.out.below HBC.out) (R2.out.below HBC.out) _ Q2.out).mono ?_)
  rintro x w4 ⟨rfl, hb⟩
  have HBC := hide (bcall HBC.out hb)
  clear hb
  (try go_simp)
  refine hK.out _ _ (by exact ⟨K1.out.below HBC.out, K2.out.below HBC.out⟩) (fun hHeld => ?_)
  clear hK
  (try simp only [Act.put, List.setIfInBounds_toArray, List.set_cons_zero, List.set_cons_succ])
  refine tk 18 (h := ?_)
  refine tk 19 (h := ?_)
  refine tk 20 (h := ?_)
  refine tk 21 (hy := fun w_ h_ => ex_load1 rfl rfl h_.1 Tryz.underlying22 rfl rfl) (h := ?_)
  refine tk 22 (h := ?_)
  refine tk 23 (hy := fun w_ h_ => ex_load1 rfl rfl h_.2 Tryz.underlying22 rfl rfl) (h := ?_)
  refine wpAnyH_ready (rs := [24]) (by kernel_rfl) (by simp) ?_
  refine AllReadyH.cons rfl (fun K hK => ?_) AllReadyH.nil
  go_simp
  go_at_call 74
  (with_reducible refine (sm_b q q_ v v_ _ (R1.out.below HBC.out) (R2.out.below HBC.out) _ Q3.out).mono ?_)
  rintro x w4 ⟨rfl, hb⟩
  have HBC := hide (bcall HBC.out hb)
  clear hb
  (try go_simp)
  refine hK.out _ _ (by exact ⟨K1.out.below HBC.out, K2.out.below HBC.out⟩) (fun hHeld => ?_)
  clear hK
  (try simp only [Act.put, List.setIfInBounds_toArray, List.set_cons_zero, List.set_cons_succ])
  refine tk 25 (h := ?_)
  refine tk 26 (h := ?_)
  refine tk 27 (h := ?_)
  refine tk 28 (hy := fun w_ h_ => ex_load1 rfl rfl h_.1 Tryz.underlying47 rfl rfl) (h := ?_)
  refine tk 29 (h := ?_)
  refine tk 30 (hy := fun w_ h_ => ex_load1 rfl rfl h_.2 Tryz.underlying47 rfl rfl) (h := ?_)
  refine wpAnyH_ready (rs := [31]) (by kernel_rfl) (by simp) ?_
  refine AllReadyH.cons rfl (fun K hK => ?_) AllReadyH.nil
  go_simp
  go_at_call 75
  (with_reducible refine (sm_a q q_ v v_ _ (R1.out.below HBC.out) (R2.out.below HBC.out) _ Q4.out).mono ?_)
  rintro x w4 ⟨rfl, hb⟩
  have HBC := hide (bcall HBC.out hb)
  clear hb
  (try go_simp)
  refine hK.out _ _ (by exact ⟨K1.out.below HBC.out, K2.out.below HBC.out⟩) (fun hHeld => ?_)
  clear hK
  (try simp only [Act.put, List.setIfInBounds_toArray, List.set_cons_zero, List.set_cons_succ])
  refine tk 32 (h := ?_)
  refine tk 33 (h := ?_)
  refine tk 34 (h := ?_)
  refine tk 35 (hy := fun w_ h_ => ex_loadk (m := [.int .i64 q.l.scanned, .int .i64 q.l.spent, .int .i64 q.l.pool, hdV v.bl]) rfl rfl h_.1 Tryz.underlying61 rfl (by kernel_rfl) rfl) (h := ?_)
  refine tk 36 (h := ?_)
  refine tk 37 (hy := fun w_ h_ => ex_loadk (m := [.int .i64 q_.l.scanned, .int .i64 q_.l.spent, .int .i64 q_.l.pool, hdV v_.bl]) rfl rfl h_.2 Tryz.underlying61 rfl (by kernel_rfl) rfl) (h := ?_)
  refine wpAnyH_ready (rs := [38]) (by kernel_rfl) (by simp) ?_
  refine AllReadyH.cons rfl (fun K hK => ?_) AllReadyH.nil
  go_simp
  go_at_call 76
  (with_reducible refine (sm_l q q_ v v_ _ (R1.out.below HBC.out) (R2.out.below HBC.out) _ Q5.out).mono ?_)
  rintro x w4 ⟨rfl, hb⟩
  have HBC := hide (bcall HBC.out hb)
  clear hb
  (try go_simp)
  refine hK.out _ _ (by exact ⟨K1.out.below HBC.out, K2.out.below HBC.out⟩) (fun hHeld => ?_)
  clear hK
  (try simp only [Act.put, List.setIfInBounds_toArray, List.set_cons_zero, List.set_cons_succ])
  refine tk 39 (h := ?_)
  refine tk 40 (h := ?_)
  refine tk 41 (h := ?_)
  refine tk 42 (hy := fun w_ h_ => ex_load1 rfl rfl h_.1 Tryz.underlying62 rfl rfl) (h := ?_)
  refine tk 43 (h := ?_)
  refine tk 44 (hy := fun w_ h_ => ex_load1 rfl rfl h_.2 Tryz.underlying62 rfl rfl) (h := ?_)
  refine wpAnyH_ready (rs := [45]) (by kernel_rfl) (by simp) ?_
  refine AllReadyH.cons rfl (fun K hK => ?_) AllReadyH.nil
  go_simp
  go_at_call 77
  (with_reducible refine (sm_ws q q_ v v_ _ (R1.out.below HBC.out) (R2.out.below HBC.out) _ Q6.out).mono ?_)
  rintro x w4 ⟨rfl, hb⟩
  have HBC := hide (bcall HBC.out hb)
  clear hb
  (try go_simp)
  refine hK.out _ _ (by exact ⟨K1.out.below HBC.out, K2.out.below HBC.out⟩) (fun hHeld => ?_)
  clear hK
  (try simp only [Act.put, List.setIfInBounds_toArray, List.set_cons_zero, List.set_cons_succ])
  refine tk 46 (h := ?_)
  refine tk 47 (h := ?_)
  refine tu 48 (h := ?_)
  refine tu 49 (h := ?_)
  refine tu 50 (h := ?_)
  refine tu 51 (h := ?_)
  refine tu 52 (h := ?_)
  refine tk 53 (h := ?_)
  refine tk 54 (h := ?_)
  refine tu 55 (h := ?_)
  refine tu 56 (h := ?_)
  refine tu 57 (h := ?_)
  refine tu 58 (h := ?_)
  refine tu 59 (h := ?_)
  refine tk 60 (h := ?_)
  refine tk 61 (h := ?_)
  refine wpAnyH_done (by kernel_rfl) ?_ _
  go_wp2
  go_ret
  exact ⟨rfl, bcall HB.out HBC.out⟩
end Go.Proofs.YtdmbcjckgfjcaaaGreatDoor
