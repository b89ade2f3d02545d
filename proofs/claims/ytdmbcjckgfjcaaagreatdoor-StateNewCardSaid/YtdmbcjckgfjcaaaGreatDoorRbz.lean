import Derived.Test.YtdmbcjckgfjcaaaGreatDoorRby
import Derived.Test.YtdmbcjckgfjcaaaGreatDoorRbw
/- Layer state: Same, by its first conjunct that is false. Written by tools/genstate7.py. -/
namespace Go.Proofs.YtdmbcjckgfjcaaaGreatDoor
open Go.RowKit Go.Joins Go.Shelf
set_option maxRecDepth 100000 in
set_option maxHeartbeats 16000000 in
theorem smS_7 (q q_ : Sq) (v v_ : Sv) (w w1 : World) (HE : Hid ((w.alloc (.cells ((stL q v)).toArray 66)).alloc (.cells ((stL q_ v_)).toArray 66) = w1)) (K1 : Hid (Bc 66 w1 w.heap.size (stL q v))) (K2 : Hid (Bc 66 w1 (w.heap.size + 1) (stL q_ v_))) (HB : Hid (Below w.heap.size w w1)) (R1 : Hid (StR w1 v q)) (R2 : Hid (StR w1 v_ q_)) (Q0 : Hid (decide (PlS q q_) = true)) (Q1 : Hid (decide (q.sl = q_.sl ∧ q.ob = q_.ob) = true)) (Q2 : Hid (decide (q.m = q_.m) = true)) (Q3 : Hid (decide (q.bins = q_.bins) = true)) (Q4 : Hid (decide (q.acks = q_.acks) = true)) (Q5 : Hid (decide (q.l = q_.l) = true)) (Q6 : Hid (decide (q.ws = q_.ws) = true)) (Q7 : Hid (decide (q.ms = q_.ms) = false)) :
    Calls Tryz.prog 24 #[.agg ((stL q v)).toArray, .agg ((stL q_ v_)).toArray] w fun x w' => x = .returned (.bool false) ∧ Below w.heap.size w w' := by
  have HBC := hide (show Below w1.heap.size w1 w1.drew from ⟨rfl, rfl, rfl, Nat.le_refl _, fun _ _ => rfl⟩)
  have hq0 := eql_ps q q_
  rw [Q0.out] at hq0
  go_enter Tryz.func24, Tryz.ntmps24
  go_upto_region 1 with (fail)
  rw [HE.out]
  (try simp only [List.append_eq, List.cons_append, List.nil_append])
  refine wp_region_held_drew (S := fun w_ => Bc 66 w_ w.heap.size (stL q v) ∧ Bc 66 w_ (w.heap.size + 1) (stL q_ v_)) (by kernel_rfl) ?_ (fun hHeld => ?_)
  · exact (by exact ⟨K1.out.below HBC.out, K2.out.below HBC.out⟩)
  refine tk 0 (hy := fun w_ h_ => ex_loadk (m := stL q v) rfl rfl h_.1 Tryz.underlying66 rfl (by kernel_rfl) rfl) (h := ?_)
  refine tk 2 (hy := fun w_ h_ => ex_loadk (m := stL q_ v_) rfl rfl h_.2 Tryz.underlying66 rfl (by kernel_rfl) rfl) (h := ?_)
  refine wpAnyH_ready (rs := [1]) (by kernel_rfl) (by simp) ?_
  refine AllReadyH.cons rfl (fun K hK => ?_) AllReadyH.nil
  go_simp
  go_at_call 71
  (with_reducible refine (plS_any q v _).mono ?_)
  rintro x w4 ⟨rfl, hb⟩
  have HBC := hide (bcall HBC.out hb)
  clear hb
  (try go_simp)
  refine hK.out _ _ (by exact ⟨K1.out.below HBC.out, K2.out.below HBC.out⟩) (fun hHeld => ?_)
  clear hK
  (try simp only [Act.put, List.setIfInBounds_toArray, List.set_cons_zero, List.set_cons_succ])
  refine wpAnyH_ready (rs := [3]) (by kernel_rfl) (by simp) ?_
  refine AllReadyH.cons rfl (fun K hK => ?_) AllReadyH.nil
  go_simp
  go_at_call 71
  (with_reducible refine (plS_any q_ v_ _).mono ?_)
  rintro x w4 ⟨rfl, hb⟩
  have HBC := hide (bcall HBC.out hb)
  clear hb
  (try go_simp)
  refine hK.out _ _ (by exact ⟨K1.out.below HBC.out, K2.out.below HBC.out⟩) (fun hHeld => ?_)
  clear hK
  (try simp only [Act.put, List.setIfInBounds_toArray, List.set_cons_zero, List.set_cons_succ])
  refine tk 4 (h := ?_)
  refine tk 5 (h := ?_)
  refine tk 6 (h := ?_)
  refine tk 7 (hy := fun w_ h_ => ex_loadk (m := [.int .i64 q.sl, hdV v.hob]) rfl rfl h_.1 Tryz.underlying24 rfl (by kernel_rfl) rfl) (h := ?_)
  refine tk 8 (h := ?_)
  refine tk 9 (hy := fun w_ h_ => ex_loadk (m := [.int .i64 q_.sl, hdV v_.hob]) rfl rfl h_.2 Tryz.underlying24 rfl (by kernel_rfl) rfl) (h := ?_)
  refine wpAnyH_ready (rs := [10]) (by kernel_rfl) (by simp) ?_
  refine AllReadyH.cons rfl (fun K hK => ?_) AllReadyH.nil
  go_simp
  go_at_call 72
  (with_reducible refine (sm_h q q_ v v_ _ (R1.out.below HBC.out) (R2.out.below HBC.out) _ Q1.out).mono ?_)
  rintro x w4 ⟨rfl, hb⟩
  have HBC := hide (bcall HBC.out hb)
  clear hb
  (try go_simp)
  refine hK.out _ _ (by exact ⟨K1.out.below HBC.out, K2.out.below HBC.out⟩) (fun hHeld => ?_)
  clear hK
  (try simp only [Act.put, List.setIfInBounds_toArray, List.set_cons_zero, List.set_cons_succ])
  refine tk 11 (h := ?_)
  refine tk 12 (h := ?_)
  refine tk 13 (h := ?_)
  refine tk 14 (hy := fun w_ h_ => ex_load1 rfl rfl h_.1 Tryz.underlying58 rfl rfl) (h := ?_)
  refine tk 15 (h := ?_)
  refine tk 16 (hy := fun w_ h_ => ex_load1 rfl rfl h_.2 Tryz.underlying58 rfl rfl) (h := ?_)
  refine wpAnyH_ready (rs := [17]) (by kernel_rfl) (by simp) ?_
  refine AllReadyH.cons rfl (fun K hK => ?_) AllReadyH.nil
  go_simp
  go_at_call 73
  (with_reducible refine (sm_m q q_ v v_ _ (R1.out.below HBC.out) (R2.out.below HBC.out) _ Q2.out).mono ?_)
  rintro x w4 ⟨rfl, hb⟩
  have HBC := hide (bcall HBC.out hb)
  clear hb
  (try go_simp)
  refine hK.out _ _ (by exact ⟨K1.out.below HBC.out, K2.out.below HBC.out⟩) (fun hHeld => ?_)
  clear hK
  (try simp only [Act.put, List.setIfInBounds_toArray, List.set_cons_zero, List.set_cons_succ])
  refine tk 18 (h := ?_)
  refine tk 19 (h := ?_)
  refine tk 20 (h := ?_)
  refine tk 21 (hy := fun w_ h_ => ex_load1 rfl rfl h_.1 Tryz.underlying22 rfl rfl) (h := ?_)
  refine tk 22 (h := ?_)
  refine tk 23 (hy := fun w_ h_ => ex_load1 rfl rfl h_.2 Tryz.underlying22 rfl rfl) (h := ?_)
  refine wpAnyH_ready (rs := [24]) (by kernel_rfl) (by simp) ?_
  refine AllReadyH.cons rfl (fun K hK => ?_) AllReadyH.nil
  go_simp
  go_at_call 74
  (with_reducible refine (sm_b q q_ v v_ _ (R1.out.below HBC.out) (R2.out.below HBC.out) _ Q3.out).mono ?_)
  rintro x w4 ⟨rfl, hb⟩
  have HBC := hide (bcall HBC.out hb)
  clear hb
  (try go_simp)
  refine hK.out _ _ (by exact ⟨K1.out.below HBC.out, K2.out.below HBC.out⟩) (fun hHeld => ?_)
  clear hK
  (try simp only [Act.put, List.setIfInBounds_toArray, List.set_cons_zero, List.set_cons_succ])
  refine tk 25 (h := ?_)
  refine tk 26 (h := ?_)
  refine tk 27 (h := ?_)
  refine tk 28 (hy := fun w_ h_ => ex_load1 rfl rfl h_.1 Tryz.underlying47 rfl rfl) (h := ?_)
  refine tk 29 (h := ?_)
  refine tk 30 (hy := fun w_ h_ => ex_load1 rfl rfl h_.2 Tryz.underlying47 rfl rfl) (h := ?_)
  refine wpAnyH_ready (rs := [31]) (by kernel_rfl) (by simp) ?_
  refine AllReadyH.cons rfl (fun K hK => ?_) AllReadyH.nil
  go_simp
  go_at_call 75
  (with_reducible refine (sm_a q q_ v v_ _ (R1.out.below HBC.out) (R2.out.below HBC.out) _ Q4.out).mono ?_)
  rintro x w4 ⟨rfl, hb⟩
  have HBC := hide (bcall HBC.out hb)
  clear hb
  (try go_simp)
  refine hK.out _ _ (by exact ⟨K1.out.below HBC.out, K2.out.below HBC.out⟩) (fun hHeld => ?_)
  clear hK
  (try simp only [Act.put, List.setIfInBounds_toArray, List.set_cons_zero, List.set_cons_succ])
  refine tk 32 (h := ?_)
  refine tk 33 (h := ?_)
  refine tk 34 (h := ?_)
  refine tk 35 (hy := fun w_ h_ => ex_loadk (m := [.int .i64 q.l.scanned, .int .i64 q.l.spent, .int .i64 q.l.pool, hdV v.bl]) rfl rfl h_.1 Tryz.underlying61 rfl (by kernel_rfl) rfl) (h := ?_)
  refine tk 36 (h := ?_)
  refine tk 37 (hy := fun w_ h_ => ex_loadk (m := [.int .i64 q_.l.scanned, .int .i64 q_.l.spent, .int .i64 q_.l.pool, hdV v_.bl]) rfl rfl h_.2 Tryz.underlying61 rfl (by kernel_rfl) rfl) (h := ?_)
  refine wpAnyH_ready (rs := [38]) (by kernel_rfl) (by simp) ?_
  refine AllReadyH.cons rfl (fun K hK => ?_) AllReadyH.nil
  go_simp
  go_at_call 76
  (with_reducible refine (sm_l q q_ v v_ _ (R1.out.below HBC.out) (R2.out.below HBC.out) _ Q5.out).mono ?_)
  rintro x w4 ⟨rfl, hb⟩
  have HBC := hide (bcall HBC.out hb)
  clear hb
  (try go_simp)
  refine hK.out _ _ (by exact ⟨K1.out.below HBC.out, K2.out.below HBC.out⟩) (fun hHeld => ?_)
  clear hK
  (try simp only [Act.put, List.setIfInBounds_toArray, List.set_cons_zero, List.set_cons_succ])
  refine tk 39 (h := ?_)
  refine tk 40 (h := ?_)
  refine tk 41 (h := ?_)
  refine tk 42 (hy := fun w_ h_ => ex_load1 rfl rfl h_.1 Tryz.underlying62 rfl rfl) (h := ?_)
  refine tk 43 (h := ?_)
  refine tk 44 (hy := fun w_ h_ => ex_load1 rfl rfl h_.2 Tryz.underlying62 rfl rfl) (h := ?_)
  refine wpAnyH_ready (rs := [45]) (by kernel_rfl) (by simp) ?_
  refine AllReadyH.cons rfl (fun K hK => ?_) AllReadyH.nil
  go_simp
  go_at_call 77
  (with_reducible refine (sm_ws q q_ v v_ _ (R1.out.below HBC.out) (R2.out.below HBC.out) _ Q6.out).mono ?_)
  rintro x w4 ⟨rfl, hb⟩
  have HBC := hide (bcall HBC.out hb)
  clear hb
  (try go_simp)
  refine hK.out _ _ (by exact ⟨K1.out.below HBC.out, K2.out.below HBC.out⟩) (fun hHeld => ?_)
  clear hK
  (try simp only [Act.put, List.setIfInBounds_toArray, List.set_cons_zero, List.set_cons_succ])
  refine tk 46 (h := ?_)
  refine tk 47 (h := ?_)
  refine tk 48 (h := ?_)
  refine tk 49 (hy := fun w_ h_ => ex_load1 rfl rfl h_.1 Tryz.underlying63 rfl rfl) (h := ?_)
  refine tk 50 (h := ?_)
  refine tk 51 (hy := fun w_ h_ => ex_load1 rfl rfl h_.2 Tryz.underlying63 rfl rfl) (h := ?_)
  refine wpAnyH_ready (rs := [52]) (by kernel_rfl) (by simp) ?_
  refine AllReadyH.cons rfl (fun K hK => ?_) AllReadyH.nil
  go_simp
  go_at_call 79
  (with_reducible refine (sm_ms q q_ v v_ _ (R1.out.below HBC.out) (R2.out.below HBC.out) _ Q7.out).mono ?_)
  rintro x w4 ⟨rfl, hb⟩
  have HBC := hide (bcall HBC.out hb)
  clear hb
  (try go_simp)
  refine hK.out _ _ (by exact ⟨K1.out.below HBC.out, K2.out.below HBC.out⟩) (fun hHeld => ?_)
  clear hK
  (try simp only [Act.put, List.setIfInBounds_toArray, List.set_cons_zero, List.set_cons_succ])
  refine tk 53 (h := ?_)
  refine tk 54 (h := ?_)
  refine tu 55 (h := ?_)
  refine tu 56 (h := ?_)
  refine tu 57 (h := ?_)
  refine tu 58 (h := ?_)
  refine tu 59 (h := ?_)
  refine tk 60 (h := ?_)
  refine tk 61 (h := ?_)
  refine wpAnyH_done (by kernel_rfl) ?_ _
  go_wp2
  go_ret
  exact ⟨rfl, bcall HB.out HBC.out⟩
set_option maxRecDepth 100000 in
set_option maxHeartbeats 16000000 in
theorem smS_8 (q q_ : Sq) (v v_ : Sv) (w w1 : World) (HE : Hid ((w.alloc (.cells ((stL q v)).toArray 66)).alloc (.cells ((stL q_ v_)).toArray 66) = w1)) (K1 : Hid (Bc 66 w1 w.heap.size (stL q v))) (K2 : Hid (Bc 66 w1 (w.heap.size + 1) (stL q_ v_))) (HB : Hid (Below w.heap.size w w1)) (R1 : Hid (StR w1 v q)) (R2 : Hid (StR w1 v_ q_)) (Q0 : Hid (decide (PlS q q_) = true)) (Q1 : Hid (decide (q.sl = q_.sl ∧ q.ob = q_.ob) = true)) (Q2 : Hid (decide (q.m = q_.m) = true)) (Q3 : Hid (decide (q.bins = q_.bins) = true)) (Q4 : Hid (decide (q.acks = q_.acks) = true)) (Q5 : Hid (decide (q.l = q_.l) = true)) (Q6 : Hid (decide (q.ws = q_.ws) = true)) (Q7 : Hid (decide (q.ms = q_.ms) = true)) (Q8 : Hid (decide (q.p = q_.p) = false)) :
    Calls Tryz.prog 24 #[.agg ((stL q v)).toArray, .agg ((stL q_ v_)).toArray] w fun x w' => x = .returned (.bool false) ∧ Below w.heap.size w w' := by
  have HBC := hide (show Below w1.heap.size w1 w1.drew from ⟨rfl, rfl, rfl, Nat.le_refl _, fun _ _ => rfl⟩)
  have hq0 := eql_ps q q_
  rw [Q0.out] at hq0
  go_enter Tryz.func24, Tryz.ntmps24
  go_upto_region 1 with (fail)
  rw [HE.out]
  (try simp only [List.append_eq, List.cons_append, List.nil_append])
  refine wp_region_held_drew (S := fun w_ => Bc 66 w_ w.heap.size (stL q v) ∧ Bc 66 w_ (w.heap.size + 1) (stL q_ v_)) (by kernel_rfl) ?_ (fun hHeld => ?_)
  · exact (by exact ⟨K1.out.below HBC.out, K2.out.below HBC.out⟩)
  refine tk 0 (hy := fun w_ h_ => ex_loadk (m := stL q v) rfl rfl h_.1 Tryz.underlying66 rfl (by kernel_rfl) rfl) (h := ?_)
  refine tk 2 (hy := fun w_ h_ => ex_loadk (m := stL q_ v_) rfl rfl h_.2 Tryz.underlying66 rfl (by kernel_rfl) rfl) (h := ?_)
  refine wpAnyH_ready (rs := [1]) (by kernel_rfl) (by simp) ?_
  refine AllReadyH.cons rfl (fun K hK => ?_) AllReadyH.nil
  go_simp
  go_at_call 71
  (with_reducible refine (plS_any q v _).mono ?_)
  rintro x w4 ⟨rfl, hb⟩
  have HBC := hide (bcall HBC.out hb)
  clear hb
  (try go_simp)
  refine hK.out _ _ (by exact ⟨K1.out.below HBC.out, K2.out.below HBC.out⟩) (fun hHeld => ?_)
  clear hK
  (try simp only [Act.put, List.setIfInBounds_toArray, List.set_cons_zero, List.set_cons_succ])
  refine wpAnyH_ready (rs := [3]) (by kernel_rfl) (by simp) ?_
  refine AllReadyH.cons rfl (fun K hK => ?_) AllReadyH.nil
  go_simp
  go_at_call 71
  (with_reducible refine (plS_any q_ v_ _).mono ?_)
  rintro x w4 ⟨rfl, hb⟩
  have HBC := hide (bcall HBC.out hb)
  clear hb
  (try go_simp)
  refine hK.out _ _ (by exact ⟨K1.out.below HBC.out, K2.out.below HBC.out⟩) (fun hHeld => ?_)
  clear hK
  (try simp only [Act.put, List.setIfInBounds_toArray, List.set_cons_zero, List.set_cons_succ])
  refine tk 4 (h := ?_)
  refine tk 5 (h := ?_)
  refine tk 6 (h := ?_)
  refine tk 7 (hy := fun w_ h_ => ex_loadk (m := [.int .i64 q.sl, hdV v.hob]) rfl rfl h_.1 Tryz.underlying24 rfl (by kernel_rfl) rfl) (h := ?_)
  refine tk 8 (h := ?_)
  refine tk 9 (hy := fun w_ h_ => ex_loadk (m := [.int .i64 q_.sl, hdV v_.hob]) rfl rfl h_.2 Tryz.underlying24 rfl (by kernel_rfl) rfl) (h := ?_)
  refine wpAnyH_ready (rs := [10]) (by kernel_rfl) (by simp) ?_
  refine AllReadyH.cons rfl (fun K hK => ?_) AllReadyH.nil
  go_simp
  go_at_call 72
  (with_reducible refine (sm_h q q_ v v_ _ (R1.out.below HBC.out) (R2.out.below HBC.out) _ Q1.out).mono ?_)
  rintro x w4 ⟨rfl, hb⟩
  have HBC := hide (bcall HBC.out hb)
  clear hb
  (try go_simp)
  refine hK.out _ _ (by exact ⟨K1.out.below HBC.out, K2.out.below HBC.out⟩) (fun hHeld => ?_)
  clear hK
  (try simp only [Act.put, List.setIfInBounds_toArray, List.set_cons_zero, List.set_cons_succ])
  refine tk 11 (h := ?_)
  refine tk 12 (h := ?_)
  refine tk 13 (h := ?_)
  refine tk 14 (hy := fun w_ h_ => ex_load1 rfl rfl h_.1 Tryz.underlying58 rfl rfl) (h := ?_)
  refine tk 15 (h := ?_)
  refine tk 16 (hy := fun w_ h_ => ex_load1 rfl rfl h_.2 Tryz.underlying58 rfl rfl) (h := ?_)
  refine wpAnyH_ready (rs := [17]) (by kernel_rfl) (by simp) ?_
  refine AllReadyH.cons rfl (fun K hK => ?_) AllReadyH.nil
  go_simp
  go_at_call 73
  (with_reducible refine (sm_m q q_ v v_ _ (R1.out.below HBC.out) (R2.out.below HBC.out) _ Q2.out).mono ?_)
  rintro x w4 ⟨rfl, hb⟩
  have HBC := hide (bcall HBC.out hb)
  clear hb
  (try go_simp)
  refine hK.out _ _ (by exact ⟨K1.out.below HBC.out, K2.out.below HBC.out⟩) (fun hHeld => ?_)
  clear hK
  (try simp only [Act.put, List.setIfInBounds_toArray, List.set_cons_zero, List.set_cons_succ])
  refine tk 18 (h := ?_)
  refine tk 19 (h := ?_)
  refine tk 20 (h := ?_)
  refine tk 21 (hy := fun w_ h_ => ex_load1 rfl rfl h_.1 Tryz.underlying22 rfl rfl) (h := ?_)
  refine tk 22 (h := ?_)
  refine tk 23 (hy := fun w_ h_ => ex_load1 rfl rfl h_.2 Tryz.underlying22 rfl rfl) (h := ?_)
  refine wpAnyH_ready (rs := [24]) (by kernel_rfl) (by simp) ?_
  refine AllReadyH.cons rfl (fun K hK => ?_) AllReadyH.nil
  go_simp
  go_at_call 74
  (with_reducible refine (sm_b q q_ v v_ _ (R1.out.below HBC.out) (R2.out.below HBC.out) _ Q3.out).mono ?_)
  rintro x w4 ⟨rfl, hb⟩
  have HBC := hide (bcall HBC.out hb)
  clear hb
  (try go_simp)
  refine hK.out _ _ (by exact ⟨K1.out.below HBC.out, K2.out.below HBC.out⟩) (fun hHeld => ?_)
  clear hK
  (try simp only [Act.put, List.setIfInBounds_toArray, List.set_cons_zero, List.set_cons_succ])
  refine tk 25 (h := ?_)
  refine tk 26 (h := ?_)
  refine tk 27 (h := ?_)
  refine tk 28 (hy := fun w_ h_ => ex_load1 rfl rfl h_.1 Tryz.underlying47 rfl rfl) (h := ?_)
  refine tk 29 (h := ?_)
  refine tk 30 (hy := fun w_ h_ => ex_load1 rfl rfl h_.2 Tryz.underlying47 rfl rfl) (h := ?_)
  refine wpAnyH_ready (rs := [31]) (by kernel_rfl) (by simp) ?_
  refine AllReadyH.cons rfl (fun K hK => ?_) AllReadyH.nil
  go_simp
  go_at_call 75
  (with_reducible refine (sm_a q q_ v v_ _ (R1.out.below HBC.out) (R2.out.below HBC.out) _ Q4.out).mono ?_)
  rintro x w4 ⟨rfl, hb⟩
  have HBC := hide (bcall HBC.out hb)
  clear hb
  (try go_simp)
  refine hK.out _ _ (by exact ⟨K1.out.below HBC.out, K2.out.below HBC.out⟩) (fun hHeld => ?_)
  clear hK
  (try simp only [Act.put, List.setIfInBounds_toArray, List.set_cons_zero, List.set_cons_succ])
  refine tk 32 (h := ?_)
  refine tk 33 (h := ?_)
  refine tk 34 (h := ?_)
  refine tk 35 (hy := fun w_ h_ => ex_loadk (m := [.int .i64 q.l.scanned, .int .i64 q.l.spent, .int .i64 q.l.pool, hdV v.bl]) rfl rfl h_.1 Tryz.underlying61 rfl (by kernel_rfl) rfl) (h := ?_)
  refine tk 36 (h := ?_)
  refine tk 37 (hy := fun w_ h_ => ex_loadk (m := [.int .i64 q_.l.scanned, .int .i64 q_.l.spent, .int .i64 q_.l.pool, hdV v_.bl]) rfl rfl h_.2 Tryz.underlying61 rfl (by kernel_rfl) rfl) (h := ?_)
  refine wpAnyH_ready (rs := [38]) (by kernel_rfl) (by simp) ?_
  refine AllReadyH.cons rfl (fun K hK => ?_) AllReadyH.nil
  go_simp
  go_at_call 76
  (with_reducible refine (sm_l q q_ v v_ _ (R1.out.below HBC.out) (R2.out.below HBC.out) _ Q5.out).mono ?_)
  rintro x w4 ⟨rfl, hb⟩
  have HBC := hide (bcall HBC.out hb)
  clear hb
  (try go_simp)
  refine hK.out _ _ (by exact ⟨K1.out.below HBC.out, K2.out.below HBC.out⟩) (fun hHeld => ?_)
  clear hK
  (try simp only [Act.put, List.setIfInBounds_toArray, List.set_cons_zero, List.set_cons_succ])
  refine tk 39 (h := ?_)
  refine tk 40 (h := ?_)
  refine tk 41 (h := ?_)
  refine tk 42 (hy := fun w_ h_ => ex_load1 rfl rfl h_.1 Tryz.underlying62 rfl rfl) (h := ?_)
  refine tk 43 (h := ?_)
  refine tk 44 (hy := fun w_ h_ => ex_load1 rfl rfl h_.2 Tryz.underlying62 rfl rfl) (h := ?_)
  refine wpAnyH_ready (rs := [45]) (by kernel_rfl) (by simp) ?_
  refine AllReadyH.cons rfl (fun K hK => ?_) AllReadyH.nil
  go_simp
  go_at_call 77
  (with_reducible refine (sm_ws q q_ v v_ _ (R1.out.below HBC.out) (R2.out.below HBC.out) _ Q6.out).mono ?_)
  rintro x w4 ⟨rfl, hb⟩
  have HBC := hide (bcall HBC.out hb)
  clear hb
  (try go_simp)
  refine hK.out _ _ (by exact ⟨K1.out.below HBC.out, K2.out.below HBC.out⟩) (fun hHeld => ?_)
  clear hK
  (try simp only [Act.put, List.setIfInBounds_toArray, List.set_cons_zero, List.set_cons_succ])
  refine tk 46 (h := ?_)
  refine tk 47 (h := ?_)
  refine tk 48 (h := ?_)
  refine tk 49 (hy := fun w_ h_ => ex_load1 rfl rfl h_.1 Tryz.underlying63 rfl rfl) (h := ?_)
  refine tk 50 (h := ?_)
  refine tk 51 (hy := fun w_ h_ => ex_load1 rfl rfl h_.2 Tryz.underlying63 rfl rfl) (h := ?_)
  refine wpAnyH_ready (rs := [52]) (by kernel_rfl) (by simp) ?_
  refine AllReadyH.cons rfl (fun K hK => ?_) AllReadyH.nil
  go_simp
  go_at_call 79
  (with_reducible refine (sm_ms q q_ v v_ _ (R1.out.below HBC.out) (R2.out.below HBC.out) _ Q7.out).mono ?_)
  rintro x w4 ⟨rfl, hb⟩
  have HBC := hide (bcall HBC.out hb)
  clear hb
  (try go_simp)
  refine hK.out _ _ (by exact ⟨K1.out.below HBC.out, K2.out.below HBC.out⟩) (fun hHeld => ?_)
  clear hK
  (try simp only [Act.put, List.setIfInBounds_toArray, List.set_cons_zero, List.set_cons_succ])
  refine tk 53 (h := ?_)
  refine tk 54 (h := ?_)
  refine tk 55 (h := ?_)
  refine tk 56 (hy := fun w_ h_ => ex_loadk (m := [.int .i64 q.p.wk, .int .i64 q.p.mu, .int .i64 q.p.cp, .int .i64 q.p.bf, .int .i64 q.p.bn, .int .i64 q.p.mo, .int .i64 q.p.pr, .int .i64 q.p.li, .int .i64 q.p.sl, (hdV v.ob), .int .u64 (q.p.ro : Int), (hdV v.rg), (hdV v.pg), (hdV v.pk)]) rfl rfl h_.1 Tryz.underlying30 rfl (by kernel_rfl) rfl) (h := ?_)
  refine tk 57 (h := ?_)
  refine tk 58 (hy := fun w_ h_ => ex_loadk (m := [.int .i64 q_.p.wk, .int .i64 q_.p.mu, .int .i64 q_.p.cp, .int .i64 q_.p.bf, .int .i64 q_.p.bn, .int .i64 q_.p.mo, .int .i64 q_.p.pr, .int .i64 q_.p.li, .int .i64 q_.p.sl, (hdV v_.ob), .int .u64 (q_.p.ro : Int), (hdV v_.rg), (hdV v_.pg), (hdV v_.pk)]) rfl rfl h_.2 Tryz.underlying30 rfl (by kernel_rfl) rfl) (h := ?_)
  refine wpAnyH_ready (rs := [59]) (by kernel_rfl) (by simp) ?_
  refine AllReadyH.cons rfl (fun K hK => ?_) AllReadyH.nil
  go_simp
  go_at_call 81
  (with_reducible refine (sm_p q q_ v v_ _ (R1.out.below HBC.out) (R2.out.below HBC.out) _ Q8.out).mono ?_)
  rintro x w4 ⟨rfl, hb⟩
  have HBC := hide (bcall HBC.out hb)
  clear hb
  (try go_simp)
  refine hK.out _ _ (by exact ⟨K1.out.below HBC.out, K2.out.below HBC.out⟩) (fun hHeld => ?_)
  clear hK
  (try simp only [Act.put, List.setIfInBounds_toArray, List.set_cons_zero, List.set_cons_succ])
  refine tk 60 (h := ?_)
  refine tk 61 (h := ?_)
  refine wpAnyH_done (by kernel_rfl) ?_ _
  go_wp2
  go_ret
  exact ⟨rfl, bcall HB.out HBC.out⟩
set_option maxRecDepth 100000 in
set_option maxHeartbeats 16000000 in
theorem smS_9 (q q_ : Sq) (v v_ : Sv) (w w1 : World) (HE : Hid ((w.alloc (.cells ((stL q v)).toArray 66)).alloc (.cells ((stL q_ v_)).toArray 66) = w1)) (K1 : Hid (Bc 66 w1 w.heap.size (stL q v))) (K2 : Hid (Bc 66 w1 (w.heap.size + 1) (stL q_ v_))) (HB : Hid (Below w.heap.size w w1)) (R1 : Hid (StR w1 v q)) (R2 : Hid (StR w1 v_ q_)) (Q0 : Hid (decide (PlS q q_) = true)) (Q1 : Hid (decide (q.sl = q_.sl ∧ q.ob = q_.ob) = true)) (Q2 : Hid (decide (q.m = q_.m) = true)) (Q3 : Hid (decide (q.bins = q_.bins) = true)) (Q4 : Hid (decide (q.acks = q_.acks) = true)) (Q5 : Hid (decide (q.l = q_.l) = true)) (Q6 : Hid (decide (q.ws = q_.ws) = true)) (Q7 : Hid (decide (q.ms = q_.ms) = true)) (Q8 : Hid (decide (q.p = q_.p) = true)) :
    Calls Tryz.prog 24 #[.agg ((stL q v)).toArray, .agg ((stL q_ v_)).toArray] w fun x w' => x = .returned (.bool true) ∧ Below w.heap.size w w' := by
  have HBC := hide (show Below w1.heap.size w1 w1.drew from ⟨rfl, rfl, rfl, Nat.le_refl _, fun _ _ => rfl⟩)
  have hq0 := eql_ps q q_
  rw [Q0.out] at hq0
  go_enter Tryz.func24, Tryz.ntmps24
  go_upto_region 1 with (fail)
  rw [HE.out]
  (try simp only [List.append_eq, List.cons_append, List.nil_append])
  refine wp_region_held_drew (S := fun w_ => Bc 66 w_ w.heap.size (stL q v) ∧ Bc 66 w_ (w.heap.size + 1) (stL q_ v_)) (by kernel_rfl) ?_ (fun hHeld => ?_)
  · exact (by exact ⟨K1.out.below HBC.out, K2.out.below HBC.out⟩)
  refine tk 0 (hy := fun w_ h_ => ex_loadk (m := stL q v) rfl rfl h_.1 Tryz.underlying66 rfl (by kernel_rfl) rfl) (h := ?_)
  refine tk 2 (hy := fun w_ h_ => ex_loadk (m := stL q_ v_) rfl rfl h_.2 Tryz.underlying66 rfl (by kernel_rfl) rfl) (h := ?_)
  refine wpAnyH_ready (rs := [1]) (by kernel_rfl) (by simp) ?_
  refine AllReadyH.cons rfl (fun K hK => ?_) AllReadyH.nil
  go_simp
  go_at_call 71
  (with_reducible refine (plS_any q v _).mono ?_)
  rintro x w4 ⟨rfl, hb⟩
  have HBC := hide (bcall HBC.out hb)
  clear hb
  (try go_simp)
  refine hK.out _ _ (by exact ⟨K1.out.below HBC.out, K2.out.below HBC.out⟩) (fun hHeld => ?_)
  clear hK
  (try simp only [Act.put, List.setIfInBounds_toArray, List.set_cons_zero, List.set_cons_succ])
  refine wpAnyH_ready (rs := [3]) (by kernel_rfl) (by simp) ?_
  refine AllReadyH.cons rfl (fun K hK => ?_) AllReadyH.nil
  go_simp
  go_at_call 71
  (with_reducible refine (plS_any q_ v_ _).mono ?_)
  rintro x w4 ⟨rfl, hb⟩
  have HBC := hide (bcall HBC.out hb)
  clear hb
  (try go_simp)
  refine hK.out _ _ (by exact ⟨K1.out.below HBC.out, K2.out.below HBC.out⟩) (fun hHeld => ?_)
  clear hK
  (try simp only [Act.put, List.setIfInBounds_toArray, List.set_cons_zero, List.set_cons_succ])
  refine tk 4 (h := ?_)
  refine tk 5 (h := ?_)
  refine tk 6 (h := ?_)
  refine tk 7 (hy := fun w_ h_ => ex_loadk (m := [.int .i64 q.sl, hdV v.hob]) rfl rfl h_.1 Tryz.underlying24 rfl (by kernel_rfl) rfl) (h := ?_)
  refine tk 8 (h := ?_)
  refine tk 9 (hy := fun w_ h_ => ex_loadk (m := [.int .i64 q_.sl, hdV v_.hob]) rfl rfl h_.2 Tryz.underlying24 rfl (by kernel_rfl) rfl) (h := ?_)
  refine wpAnyH_ready (rs := [10]) (by kernel_rfl) (by simp) ?_
  refine AllReadyH.cons rfl (fun K hK => ?_) AllReadyH.nil
  go_simp
  go_at_call 72
  (with_reducible refine (sm_h q q_ v v_ _ (R1.out.below HBC.out) (R2.out.below HBC.out) _ Q1.out).mono ?_)
  rintro x w4 ⟨rfl, hb⟩
  have HBC := hide (bcall HBC.out hb)
  clear hb
  (try go_simp)
  refine hK.out _ _ (by exact ⟨K1.out.below HBC.out, K2.out.below HBC.out⟩) (fun hHeld => ?_)
  clear hK
  (try simp only [Act.put, List.setIfInBounds_toArray, List.set_cons_zero, List.set_cons_succ])
  refine tk 11 (h := ?_)
  refine tk 12 (h := ?_)
  refine tk 13 (h := ?_)
  refine tk 14 (hy := fun w_ h_ => ex_load1 rfl rfl h_.1 Tryz.underlying58 rfl rfl) (h := ?_)
  refine tk 15 (h := ?_)
  refine tk 16 (hy := fun w_ h_ => ex_load1 rfl rfl h_.2 Tryz.underlying58 rfl rfl) (h := ?_)
  refine wpAnyH_ready (rs := [17]) (by kernel_rfl) (by simp) ?_
  refine AllReadyH.cons rfl (fun K hK => ?_) AllReadyH.nil
  go_simp
  go_at_call 73
  (with_reducible refine (sm_m q q_ v v_ _ (R1.out.below HBC.out) (R2.out.below HBC.out) _ Q2.out).mono ?_)
  rintro x w4 ⟨rfl, hb⟩
  have HBC := hide (bcall HBC.out hb)
  clear hb
  (try go_simp)
  refine hK.out _ _ (by exact ⟨K1.out.below HBC.out, K2.out.below HBC.out⟩) (fun hHeld => ?_)
  clear hK
  (try simp only [Act.put, List.setIfInBounds_toArray, List.set_cons_zero, List.set_cons_succ])
  refine tk 18 (h := ?_)
  refine tk 19 (h := ?_)
  refine tk 20 (h := ?_)
  refine tk 21 (hy := fun w_ h_ => ex_load1 rfl rfl h_.1 Tryz.underlying22 rfl rfl) (h := ?_)
  refine tk 22 (h := ?_)
  refine tk 23 (hy := fun w_ h_ => ex_load1 rfl rfl h_.2 Tryz.underlying22 rfl rfl) (h := ?_)
  refine wpAnyH_ready (rs := [24]) (by kernel_rfl) (by simp) ?_
  refine AllReadyH.cons rfl (fun K hK => ?_) AllReadyH.nil
  go_simp
  go_at_call 74
  (with_reducible refine (sm_b q q_ v v_ _ (R1.out.below HBC.out) (R2.out.below HBC.out) _ Q3.out).mono ?_)
  rintro x w4 ⟨rfl, hb⟩
  have HBC := hide (bcall HBC.out hb)
  clear hb
  (try go_simp)
  refine hK.out _ _ (by exact ⟨K1.out.below HBC.out, K2.out.below HBC.out⟩) (fun hHeld => ?_)
  clear hK
  (try simp only [Act.put, List.setIfInBounds_toArray, List.set_cons_zero, List.set_cons_succ])
  refine tk 25 (h := ?_)
  refine tk 26 (h := ?_)
  refine tk 27 (h := ?_)
  refine tk 28 (hy := fun w_ h_ => ex_load1 rfl rfl h_.1 Tryz.underlying47 rfl rfl) (h := ?_)
  refine tk 29 (h := ?_)
  refine tk 30 (hy := fun w_ h_ => ex_load1 rfl rfl h_.2 Tryz.underlying47 rfl rfl) (h := ?_)
  refine wpAnyH_ready (rs := [31]) (by kernel_rfl) (by simp) ?_
  refine AllReadyH.cons rfl (fun K hK => ?_) AllReadyH.nil
  go_simp
  go_at_call 75
  (with_reducible refine (sm_a q q_ v v_ _ (R1.out.below HBC.out) (R2.out.below HBC.out) _ Q4.out).mono ?_)
  rintro x w4 ⟨rfl, hb⟩
  have HBC := hide (bcall HBC.out hb)
  clear hb
  (try go_simp)
  refine hK.out _ _ (by exact ⟨K1.out.below HBC.out, K2.out.below HBC.out⟩) (fun hHeld => ?_)
  clear hK
  (try simp only [Act.put, List.setIfInBounds_toArray, List.set_cons_zero, List.set_cons_succ])
  refine tk 32 (h := ?_)
  refine tk 33 (h := ?_)
  refine tk 34 (h := ?_)
  refine tk 35 (hy := fun w_ h_ => ex_loadk (m := [.int .i64 q.l.scanned, .int .i64 q.l.spent, .int .i64 q.l.pool, hdV v.bl]) rfl rfl h_.1 Tryz.underlying61 rfl (by kernel_rfl) rfl) (h := ?_)
  refine tk 36 (h := ?_)
  refine tk 37 (hy := fun w_ h_ => ex_loadk (m := [.int .i64 q_.l.scanned, .int .i64 q_.l.spent, .int .i64 q_.l.pool, hdV v_.bl]) rfl rfl h_.2 Tryz.underlying61 rfl (by kernel_rfl) rfl) (h := ?_)
  refine wpAnyH_ready (rs := [38]) (by kernel_rfl) (by simp) ?_
  refine AllReadyH.cons rfl (fun K hK => ?_) AllReadyH.nil
  go_simp
  go_at_call 76
  (with_reducible refine (sm_l q q_ v v_ _ (R1.out.below HBC.out) (R2.out.below HBC.out) _ Q5.out).mono ?_)
  rintro x w4 ⟨rfl, hb⟩
  have HBC := hide (bcall HBC.out hb)
  clear hb
  (try go_simp)
  refine hK.out _ _ (by exact ⟨K1.out.below HBC.out, K2.out.below HBC.out⟩) (fun hHeld => ?_)
  clear hK
  (try simp only [Act.put, List.setIfInBounds_toArray, List.set_cons_zero, List.set_cons_succ])
  refine tk 39 (h := ?_)
  refine tk 40 (h := ?_)
  refine tk 41 (h := ?_)
  refine tk 42 (hy := fun w_ h_ => ex_load1 rfl rfl h_.1 Tryz.underlying62 rfl rfl) (h := ?_)
  refine tk 43 (h := ?_)
  refine tk 44 (hy := fun w_ h_ => ex_load1 rfl rfl h_.2 Tryz.underlying62 rfl rfl) (h := ?_)
  refine wpAnyH_ready (rs := [45]) (by kernel_rfl) (by simp) ?_
  refine AllReadyH.cons rfl (fun K hK => ?_) AllReadyH.nil
  go_simp
  go_at_call 77
  (with_reducible refine (sm_ws q q_ v v_ _ (R1.out.below HBC.out) (R2.out.below HBC.out) _ Q6.out).mono ?_)
  rintro x w4 ⟨rfl, hb⟩
  have HBC := hide (bcall HBC.out hb)
  clear hb
  (try go_simp)
  refine hK.out _ _ (by exact ⟨K1.out.below HBC.out, K2.out.below HBC.out⟩) (fun hHeld => ?_)
  clear hK
  (try simp only [Act.put, List.setIfInBounds_toArray, List.set_cons_zero, List.set_cons_succ])
  refine tk 46 (h := ?_)
  refine tk 47 (h := ?_)
  refine tk 48 (h := ?_)
  refine tk 49 (hy := fun w_ h_ => ex_load1 rfl rfl h_.1 Tryz.underlying63 rfl rfl) (h := ?_)
  refine tk 50 (h := ?_)
  refine tk 51 (hy := fun w_ h_ => ex_load1 rfl rfl h_.2 Tryz.underlying63 rfl rfl) (h := ?_)
  refine wpAnyH_ready (rs := [52]) (by kernel_rfl) (by simp) ?_
  refine AllReadyH.cons rfl (fun K hK => ?_) AllReadyH.nil
  go_simp
  go_at_call 79
  (with_reducible refine (sm_ms q q_ v v_ _ (R1.out.below HBC.out) (R2.out.below HBC.out) _ Q7.out).mono ?_)
  rintro x w4 ⟨rfl, hb⟩
  have HBC := hide (bcall HBC.out hb)
  clear hb
  (try go_simp)
  refine hK.out _ _ (by exact ⟨K1.out.below HBC.out, K2.out.below HBC.out⟩) (fun hHeld => ?_)
  clear hK
  (try simp only [Act.put, List.setIfInBounds_toArray, List.set_cons_zero, List.set_cons_succ])
  refine tk 53 (h := ?_)
  refine tk 54 (h := ?_)
  refine tk 55 (h := ?_)
  refine tk 56 (hy := fun w_ h_ => ex_loadk (m := [.int .i64 q.p.wk, .int .i64 q.p.mu, .int .i64 q.p.cp, .int .i64 q.p.bf, .int .i64 q.p.bn, .int .i64 q.p.mo, .int .i64 q.p.pr, .int .i64 q.p.li, .int .i64 q.p.sl, (hdV v.ob), .int .u64 (q.p.ro : Int), (hdV v.rg), (hdV v.pg), (hdV v.pk)]) rfl rfl h_.1 Tryz.underlying30 rfl (by kernel_rfl) rfl) (h := ?_)
  refine tk 57 (h := ?_)
  refine tk 58 (hy := fun w_ h_ => ex_loadk (m := [.int .i64 q_.p.wk, .int .i64 q_.p.mu, .int .i64 q_.p.cp, .int .i64 q_.p.bf, .int .i64 q_.p.bn, .int .i64 q_.p.mo, .int .i64 q_.p.pr, .int .i64 q_.p.li, .int .i64 q_.p.sl, (hdV v_.ob), .int .u64 (q_.p.ro : Int), (hdV v_.rg), (hdV v_.pg), (hdV v_.pk)]) rfl rfl h_.2 Tryz.underlying30 rfl (by kernel_rfl) rfl) (h := ?_)
  refine wpAnyH_ready (rs := [59]) (by kernel_rfl) (by simp) ?_
  refine AllReadyH.cons rfl (fun K hK => ?_) AllReadyH.nil
  go_simp
  go_at_call 81
  (with_reducible refine (sm_p q q_ v v_ _ (R1.out.below HBC.out) (R2.out.below HBC.out) _ Q8.out).mono ?_)
  rintro x w4 ⟨rfl, hb⟩
  have HBC := hide (bcall HBC.out hb)
  clear hb
  (try go_simp)
  refine hK.out _ _ (by exact ⟨K1.out.below HBC.out, K2.out.below HBC.out⟩) (fun hHeld => ?_)
  clear hK
  (try simp only [Act.put, List.setIfInBounds_toArray, List.set_cons_zero, List.set_cons_succ])
  refine tk 60 (h := ?_)
  refine tk 61 (h := ?_)
  refine wpAnyH_done (by kernel_rfl) ?_ _
  go_wp2
  go_ret
  exact ⟨rfl, bcall HB.out HBC.out⟩
end Go.Proofs.YtdmbcjckgfjcaaaGreatDoor
/- Layer state: Same. Written by tools/genstate7.py. -/
namespace Go.Proofs.YtdmbcjckgfjcaaaGreatDoor
open Go.RowKit Go.Joins Go.Shelf
theorem sq_eq (q q_ : Sq) : decide (q = q_) = (decide (PlS q q_) && (decide (q.sl = q_.sl ∧ q.ob = q_.ob) && (decide (q.m = q_.m) && (decide (q.bins = q_.bins) && (decide (q.acks = q_.acks) && (decide (q.l = q_.l) && (decide (q.ws = q_.ws) && (decide (q.ms = q_.ms) && decide (q.p = q_.p))))))))) := by
  cases q; cases q_
  rw [Bool.eq_iff_iff]
  simp only [Bool.and_eq_true, decide_eq_true_iff]
  unfold PlS
  simp only [Sq.mk.injEq]
  constructor
  · rintro ⟨h1, h2, h3, h4, h5, h6, h7, h8, h9, ha, hb, hc, hd, he, hf, hg, hh, hi⟩; exact ⟨⟨h6, h7, h8, h9, hc, ha, hb, hh, hi⟩, ⟨h2, h3⟩, h4, h5, hd, he, hf, hg, h1⟩
  · rintro ⟨⟨h6, h7, h8, h9, hc, ha, hb, hh, hi⟩, ⟨h2, h3⟩, h4, h5, hd, he, hf, hg, h1⟩; exact ⟨h1, h2, h3, h4, h5, h6, h7, h8, h9, ha, hb, hc, hd, he, hf, hg, hh, hi⟩
theorem Same_st (q q_ : Sq) (v v_ : Sv) (w : World) (R1 : StR w v q) (R2 : StR w v_ q_) :
    Calls Tryz.prog 24 #[.agg (stL q v).toArray, .agg (stL q_ v_).toArray] w fun x w' => x = .returned (.bool (sSame q q_)) ∧ Below w.heap.size w w' := by
  obtain ⟨w1, e1, k1, k2, hb1, -⟩ := two_box w (stL q v) (stL q_ v_) 66 66
  unfold sSame
  rw [sq_eq]
  cases d0 : decide (PlS q q_)
  · exact smS_0 q q_ v v_ w w1 e1 k1 k2 hb1 (R1.below hb1) (R2.below hb1) d0
  · skip
    cases d1 : decide (q.sl = q_.sl ∧ q.ob = q_.ob)
    · exact smS_1 q q_ v v_ w w1 e1 k1 k2 hb1 (R1.below hb1) (R2.below hb1) d0 d1
    · skip
      cases d2 : decide (q.m = q_.m)
      · exact smS_2 q q_ v v_ w w1 e1 k1 k2 hb1 (R1.below hb1) (R2.below hb1) d0 d1 d2
      · skip
        cases d3 : decide (q.bins = q_.bins)
        · exact smS_3 q q_ v v_ w w1 e1 k1 k2 hb1 (R1.below hb1) (R2.below hb1) d0 d1 d2 d3
        · skip
          cases d4 : decide (q.acks = q_.acks)
          · exact smS_4 q q_ v v_ w w1 e1 k1 k2 hb1 (R1.below hb1) (R2.below hb1) d0 d1 d2 d3 d4
          · skip
            cases d5 : decide (q.l = q_.l)
            · exact smS_5 q q_ v v_ w w1 e1 k1 k2 hb1 (R1.below hb1) (R2.below hb1) d0 d1 d2 d3 d4 d5
            · skip
              cases d6 : decide (q.ws = q_.ws)
              · exact smS_6 q q_ v v_ w w1 e1 k1 k2 hb1 (R1.below hb1) (R2.below hb1) d0 d1 d2 d3 d4 d5 d6
              · skip
                cases d7 : decide (q.ms = q_.ms)
                · exact smS_7 q q_ v v_ w w1 e1 k1 k2 hb1 (R1.below hb1) (R2.below hb1) d0 d1 d2 d3 d4 d5 d6 d7
                · skip
                  cases d8 : decide (q.p = q_.p)
                  · exact smS_8 q q_ v v_ w w1 e1 k1 k2 hb1 (R1.below hb1) (R2.below hb1) d0 d1 d2 d3 d4 d5 d6 d7 d8
                  · exact smS_9 q q_ v v_ w w1 e1 k1 k2 hb1 (R1.below hb1) (R2.below hb1) d0 d1 d2 d3 d4 d5 d6 d7 d8
end Go.Proofs.YtdmbcjckgfjcaaaGreatDoor
/- Layer state: the laws' own: a plan by bytes, a new state, a turn that came in. -/
namespace Go.Proofs.YtdmbcjckgfjcaaaGreatDoor
open Go.RowKit Go.Joins Go.Shelf
theorem made_st (v : Value) (l : List Int) (w : World) (hl : Bytes w v l) (hr : ∀ b ∈ l, 0 ≤ b ∧ b ≤ 255) (p : Pq) (hp : madeG (byteG (l.take 90)) = p) :
    Calls Tryz.prog 9 #[v] w fun x w' => ∃ ob rg pg : Hd, x = .returned (.agg (plLSa p (hdV ob) (hdV rg) (hdV pg) (hdV hd0)).toArray) ∧ PlanR w' (hdV ob) (hdV rg) (hdV pg) (hdV hd0) p ∧ Below w.heap.size w w' := by
  subst hp
  refine (made_any v l w hl hr _ rfl).mono ?_
  rintro x w' ⟨ob, rg, pg, rfl, hR, hb⟩
  obtain ⟨A0, c0, e0, -⟩ := hR.ob.form
  obtain ⟨A1, c1, e1, -⟩ := hR.rg.form
  obtain ⟨A2, c2, e2, -⟩ := hR.pg.form
  subst e0 e1 e2
  exact ⟨(A0, _, c0), (A1, _, c1), (A2, _, c2), rfl, ⟨hR.ob, hR.rg, hR.pg, Sl.nil_⟩, hb⟩
theorem New_q (p : Pq) (q : Sq) (ob rg pg : Hd) (hq : sNew p = q) (hs : p.ro < 18446744073709551616) (w : World) (hP : PlanR w (hdV ob) (hdV rg) (hdV pg) (hdV hd0) p) (hE : EnvT w) :
    Calls Tryz.prog 13 #[.agg (plLSa p (hdV ob) (hdV rg) (hdV pg) (hdV hd0)).toArray] w fun e w' => ∃ v : Sv, e = .returned (.agg (stL q v).toArray) ∧ StR w' v q ∧ Below w.heap.size w w' := by
  subst hq; exact New_st p ob rg pg hd0 hs w hP hE
theorem box_newL (w : World) (l : List Value) (t : TypeId) : ∃ w1, w.alloc (.cells l.toArray t) = w1 ∧ Bc t w1 w.heap.size l ∧ Below w.heap.size w w1 ∧ w1.heap.size = w.heap.size + 1 :=
  ⟨_, rfl, bc_new w _ _, balS w _, by simp⟩
end Go.Proofs.YtdmbcjckgfjcaaaGreatDoor
/- Layer state: the law's examples. Written by tools/genstatex.py. -/
namespace Go.Proofs.YtdmbcjckgfjcaaaGreatDoor
open Go.RowKit Go.Joins Go.Shelf
theorem row_new4 (w : World) (cs : List Value) (t : TypeId) (hn : cs.length = 4) : ∃ w1, w.alloc (.cells cs.toArray t) = w1 ∧ w1.heap.size = w.heap.size + 1 ∧ Below w.heap.size w w1 ∧ w1.ownsRow w.heap.size t 4 (.slice (some ⟨w.heap.size, 0, none⟩) 1 1) 1 cs :=
  ⟨_, rfl, by simp, balS w _, own_new w _ cs t 4 1 (Nat.le_refl _) (by omega) (by unfold maxLen; omega)⟩
theorem box_new (w : World) (l : List Value) (t : TypeId) : ∃ w1, w.alloc (.cells l.toArray t) = w1 ∧ Bc t w1 w.heap.size l ∧ Below w.heap.size w w1 ∧ w1.heap.size = w.heap.size + 1 :=
  ⟨_, rfl, bc_new w _ _, balS w _, by simp⟩
theorem copy_read {b : Nat} {w : World} {v c : Sv} {q : Sq} (h : StR w v q) (hp : c.ob = v.ob ∧ c.rg = v.rg ∧ c.pg = v.pg ∧ c.pk = v.pk) (hC : CopyR b w c q) : StR w c q :=
  ⟨by rw [hp.1, hp.2.1, hp.2.2.1, hp.2.2.2]; exact h.p, hC.hob.grid, Sl.of_own uc_len hC.m, hC.bins.grid, Sl.of_own ic_len hC.acks, hC.bl.ints, hC.ws.read, hC.ms.read⟩
theorem same_cSa (q q_ : Sq) (v v_ : Sv) (w : World) (b : Bool) (R1 : StR w v q) (R2 : StR w v_ q_) (hb : sSame q q_ = b) :
    Calls Tryz.prog 24 #[.agg (stL q v).toArray, .agg (stL q_ v_).toArray] w fun x w' => x = .returned (.bool b) ∧ Below w.heap.size w w' := by
  subst hb; exact Same_st q q_ v v_ w R1 R2
theorem same_tt (v v_ : Sv) (w : World) (R1 : StR w v exSSa) (R2 : StR w v_ exSSa) :
    Calls Tryz.prog 24 #[.agg (stL exSSa v).toArray, .agg (stL exSSa v_).toArray] w fun x w' => x = .returned (.bool true) ∧ Below w.heap.size w w' := same_cSa exSSa exSSa v v_ w true R1 R2 (by decide +kernel)
theorem same_tf (v v_ : Sv) (w : World) (R1 : StR w v exSSa) (R2 : StR w v_ zeroS) :
    Calls Tryz.prog 24 #[.agg (stL exSSa v).toArray, .agg (stL zeroS v_).toArray] w fun x w' => x = .returned (.bool false) ∧ Below w.heap.size w w' := same_cSa exSSa zeroS v v_ w false R1 R2 (by decide +kernel)
theorem copy_c (v : Sv) (w : World) (hR : StR w v exSSa) :
    Calls Tryz.prog 25 #[.agg (stL exSSa v).toArray] w fun e w' => ∃ c : Sv, e = .returned (.agg (stL exSSa c).toArray) ∧ StR w' c exSSa ∧ Below w.heap.size w w' :=
  (Copy_any exSSa v w hR ex_sm).mono (by rintro e w' ⟨c, h1, h2, h3, h4⟩; exact ⟨c, h1, copy_read (hR.below h4) h2 h3, h4⟩)
theorem new_ex (ob rg pg : Hd) (w : World) (hP : PlanR w (hdV ob) (hdV rg) (hdV pg) (hdV hd0) exQSa) (hE : EnvT w) :
    Calls Tryz.prog 13 #[.agg (plLSa exQSa (hdV ob) (hdV rg) (hdV pg) (hdV hd0)).toArray] w fun e w' => ∃ v : Sv, e = .returned (.agg (stL exSSa v).toArray) ∧ StR w' v exSSa ∧ Below w.heap.size w w' := by
  have := New_st exQSa ob rg pg hd0 (by decide) w hP hE
  rw [ex_eq] at this
  exact this
theorem new_zero (w : World) (hE : EnvT w) :
    Calls Tryz.prog 13 #[.agg pl0.toArray] w fun e w' => ∃ v : Sv, e = .returned (.agg (stL zeroS v).toArray) ∧ StR w' v zeroS ∧ Below w.heap.size w w' := by
  have := New_st zeroQ hd0 hd0 hd0 hd0 (by decide) w ⟨Grid.nil_, Grid.nil_, GridO.nil_, Sl.nil_⟩ hE
  rw [ex_zero] at this
  exact this
theorem small_h (g off c : Nat) (w : World) (hpg : GridO w (.slice (some ⟨g, off, none⟩) 1 c) [[⟨3, 1, 0, 0⟩]]) :
    Calls Tryz.prog 34 #[.slice (some ⟨g, off, none⟩) 1 c] w fun e w' => ∃ ob rg pg : Hd, e = .returned (.agg (plLSa exQSa (hdV ob) (hdV rg) (hdV pg) (hdV hd0)).toArray) ∧ PlanR w' (hdV ob) (hdV rg) (hdV pg) (hdV hd0) exQSa ∧ Below w.heap.size w w' := small_any g off c w hpg
theorem nil_form {α : Type} {enc : α → List Value} {size : Nat} {w : World} {v : Value} (h : Sl enc size w v []) : ∃ A c, v = .slice A 0 c := by
  obtain ⟨A, c, e, -⟩ := h; exact ⟨A, c, e⟩
section
variable {P : Program} {md : Region.Mode} {ops : Array Oper} {Q : Exit → Act → World → Prop} {S : World → Prop}
/-- number i is taken first; what is asked of the region, each in a lemma of its own -/
theorem tkx (i : Nat) {oi : Oper} {rest : List Oper} {v : Value} {fuel : Nat} {l : Array Bool} {a b : Act} {w : World} (h : wpAnyH P md ops Q S fuel (l.setIfInBounds i true) b w) (hi : ops.toList.drop i = oi :: rest := by rfl)
    (hs : Region.noSelect ops = true := by as_aux_lemma => kernel_rfl) (hf : Region.free md ops l i = true := by as_aux_lemma => kernel_rfl) (hr : (Region.ready md ops l).contains i = true := by as_aux_lemma => kernel_rfl)
    (hQ : ∀ c a w, Q (.panic c) (a.put oi.dst v) w → Q (.panic c) a w := by exact fun _ _ _ h => h) (hw : Region.wanted oi (yielded ops a.tmps) = true := by as_aux_lemma => rfl)
    (hy : ∀ w_, S w_ → (execOp a.eval oi).run P w_ = .ok (.value v) w_ := by intro w_ hSw; (try dsimp only at hSw); go_simp; (try with_reducible rfl)) (hS : S w := by assumption)
    (hb : a.put oi.dst v = b := by (try simp only [Act.put, List.setIfInBounds_toArray, List.set_cons_zero, List.set_cons_succ]); (try with_reducible rfl)) : wpAnyH P md ops Q S (fuel + 1) l a w :=
  wpAnyH_take (drop_at (l := ops) hi) hs hf hr hQ (.inl ⟨hw, hy⟩) hS (hb ▸ h)
end
set_option maxRecDepth 100000 in
set_option maxHeartbeats 40000000 in
theorem examples_anySa (w : World) (hE : EnvT w) : Calls Tryz.prog 8 #[] w fun e w' => e = .returned (.bool true) ∧ Below w.heap.size w w' := by
  obtain ⟨w0, e0, s0, b0, o0⟩ := row_new4 w [.int .i64 3, .int .i64 1, .int .i64 0, .int .i64 0] 99 rfl
  obtain ⟨w1, e1, s1, b1, o1⟩ := row_new1 w0 [.slice (some ⟨w.heap.size, 0, none⟩) 1 1] 100 1 rfl (by omega)
  rw [s0] at o1
  have hpg : GridO w1 (.slice (some ⟨w.heap.size + 1, 0, none⟩) 1 1) [[⟨3, 1, 0, 0⟩]] := by
    refine ⟨[.slice (some ⟨w.heap.size, 0, none⟩) 1 1], Sl.of_own (enc := one) (l := [.slice (some ⟨w.heap.size, 0, none⟩) 1 1]) one_len (by rw [flat_one]; exact o1), rfl, fun i u l hu hl => ?_⟩
    match i, hu, hl with
    | 0, hu, hl => cases hu; cases hl; exact Sl.of_own (enc := oq) (l := [⟨3, 1, 0, 0⟩]) oq_len (own_below o0 b1)
  have HPG := hide hpg
  have HB1 := hide (bcall b0 b1)
  have HE := hide hE
  have HE0 := hide e0
  have HE1 := hide e1
  clear e0 e1 s0 s1 b0 b1 o0 o1 hpg hE
  go_enter Tryz.func8, Tryz.ntmps8
  go_upto_region 2 with (first
    | (go_at_call 34; rw [HE0.out, HE1.out]; (with_reducible refine (small_h _ _ _ _ HPG.out).mono ?_); rintro e w2 ⟨ob, rg, pg, rfl, hP, hb⟩; have HP := hide hP; have HB2 := hide (bcall HB1.out hb); clear hP hb)
    | (refine wpList_store_row rfl 30 (.tmp 1) (.tmp 7) rfl w2.heap.size rfl (plLSa exQSa (hdV ob) (hdV rg) (hdV pg) (hdV hd0)).toArray rfl _ _ (heap_alloc_new w2 _) (by kernel_rfl) rfl (plA_one _ _ _ _ _) ?_; rw [setRow_alloc]))
  obtain ⟨w3, e3, k3, b3, s3⟩ := box_new w2 (plLSa exQSa (hdV ob) (hdV rg) (hdV pg) (hdV hd0)) 30
  rw [e3]
  have HB3 := hide (bcall HB2.out b3)
  have HP3 := hide (HP.out.below b3)
  have HK31 := hide k3
  clear e3 k3 b3 s3
  go_upto_region 3 with (first
    | (refine wpList_load_row rfl 30 (.tmp 1) rfl w2.heap.size rfl (plLSa exQSa (hdV ob) (hdV rg) (hdV pg) (hdV hd0)).toArray _ _ _ HK31.out Tryz.underlying30 rfl (by kernel_rfl) ?_)
    | (go_at_call 13; (with_reducible refine (new_ex ob rg pg _ HP3.out (HE.out.below HB3.out)).mono ?_); rintro e w4 ⟨v, rfl, hR, hb⟩; have HR4 := hide hR; have HB4 := hide (bcall HB3.out hb); have HK41 := hide (HK31.out.below hb); clear hR hb)
    | (refine wpList_store_row rfl 66 (.tmp 2) (.tmp 9) rfl w4.heap.size rfl (stL exSSa v).toArray rfl _ _ (heap_alloc_new w4 _) (by kernel_rfl) rfl (stA_one exSSa v) ?_; rw [setRow_alloc]))
  obtain ⟨w5, e5, k5, b5, s5⟩ := box_new w4 (stL exSSa v) 66
  rw [e5]
  have HB5 := hide (bcall HB4.out b5)
  have HR5 := hide (HR4.out.below b5)
  have HK51 := hide (HK41.out.below b5)
  have HK52 := hide k5
  clear e5 k5 b5 s5
  go_upto_region 4 with (first
    | (go_at_call 13; (with_reducible refine (new_zero _ (HE.out.below HB5.out)).mono ?_); rintro e w6 ⟨nv, rfl, hR, hb⟩; have HN6 := hide hR; have HB6 := hide (bcall HB5.out hb); have HR6 := hide (HR5.out.below hb); have HK61 := hide (HK51.out.below hb); have HK62 := hide (HK52.out.below hb); clear hR hb)
    | (refine wpList_store_row rfl 66 (.tmp 3) (.tmp 11) rfl w6.heap.size rfl (stL zeroS nv).toArray rfl _ _ (heap_alloc_new w6 _) (by kernel_rfl) rfl (stA_one zeroS nv) ?_; rw [setRow_alloc]))
  obtain ⟨wX, e7, k7, b7, s7⟩ := box_new w6 (stL zeroS nv) 66
  rw [e7]
  have HBX := hide (bcall HB6.out b7)
  have HR := hide (HR6.out.below b7)
  have HNR := hide (HN6.out.below b7)
  have HK1 := hide (HK61.out.below b7)
  have HK2 := hide (HK62.out.below b7)
  have HK3 := hide k7
  clear e7 k7 b7 s7 HB1 HB2 HB3 HB4 HB5 HB6 HE0 HE1 HPG HP HP3 HK31 HK41 HK51 HK52 HK61 HK62 HR4 HR5 HR6 HN6 HE
  obtain ⟨bm, om, cm, bb, ob2, cb, b1, o1, c1, bw, ow, cw, bu, ou, cu, br, or, cr, hm, hmc, hb_, hb1, hb2, hw_, hwc, hu_, hu1, hu2⟩ := ex_open HR.out
  obtain ⟨An, cn, hn⟩ := nil_form HNR.out.m
  have c16 : wX.cell? ⟨w4.heap.size, 16, none⟩ = some (.slice (some ⟨bm, om, none⟩) 12 cm) := (HK2.out.cell 16).trans (congrArg some hm)
  have c17 : wX.cell? ⟨w4.heap.size, 17, none⟩ = some (.slice (some ⟨bb, ob2, none⟩) 7 cb) := (HK2.out.cell 17).trans (congrArg some hb_)
  have c30 : wX.cell? ⟨w4.heap.size, 30, none⟩ = some (.slice (some ⟨bw, ow, none⟩) 1 cw) := (HK2.out.cell 30).trans (congrArg some hw_)
  have c31 : wX.cell? ⟨w4.heap.size, 31, none⟩ = some (.slice (some ⟨bu, ou, none⟩) 1 cu) := (HK2.out.cell 31).trans (congrArg some hu_)
  have HC3M := hide (show wX.cell? ⟨w6.heap.size, 16, none⟩ = some (.slice An 0 cn) from (HK3.out.cell 16).trans (congrArg some hn))
  have HC20 : Hid (wX.cell? ⟨w4.heap.size, 20, none⟩ = some (.int .i64 1)) := hide (HK2.out.cell 20)
  have HC18 : Hid (wX.cell? ⟨w4.heap.size, 18, none⟩ = some (.int .u64 1)) := hide (HK2.out.cell 18)
  have HC19 : Hid (wX.cell? ⟨w4.heap.size, 19, none⟩ = some (.int .u64 0)) := hide (HK2.out.cell 19)
  have HC16 := hide c16
  have HC17 := hide c17
  have HC30 := hide c30
  have HC31 := hide c31
  have HM := hide hmc
  have HB1 := hide hb1
  have HB2 := hide hb2
  have HW := hide hwc
  have HU1 := hide hu1
  have HU2 := hide hu2
  clear hm hmc hb_ hb1 hb2 hw_ hwc hu_ hu1 hu2 hn
  go_upto_region 6 with (fail)
  clear c16 c17 c30 c31
  have HBC := hide (show Below wX.heap.size wX wX.drew from ⟨rfl, rfl, rfl, Nat.le_refl _, fun _ _ => rfl⟩)
  (try simp only [List.append_eq, List.cons_append, List.nil_append])
  refine wp_region_held_drew (S := fun w_ => Below wX.heap.size wX w_) (by kernel_rfl) ?_ (fun hHeld => ?_)
  · exact (by exact HBC.out)
  refine tkx 0 (hy := fun w_ h_ => ex_loadk (m := (plLSa exQSa (hdV ob) (hdV rg) (hdV pg) (hdV hd0))) rfl rfl (HK1.out.below h_) Tryz.underlying30 rfl (by kernel_rfl) rfl) (h := ?_)
  refine wpAnyH_ready (rs := [1]) (by as_aux_lemma => kernel_rfl) (by simp) ?_
  refine AllReadyH.cons rfl (fun K hK => ?_) AllReadyH.nil
  go_simp
  go_at_call 15
  (with_reducible refine (Deque_r exQSa ob rg pg hd0 2 _ 4 (by decide)).mono ?_)
  rintro x wn ⟨rfl, hb⟩
  have HBC := hide (bcall HBC.out hb)
  clear hb
  (try go_simp)
  refine hK.out _ _ (by exact HBC.out) (fun hHeld => ?_)
  clear hK
  (try simp only [Act.put, List.setIfInBounds_toArray, List.set_cons_zero, List.set_cons_succ])
  refine tkx 2 (h := ?_)
  refine tkx 3 (h := ?_)
  refine tkx 4 (hy := fun w_ h_ => ex_loadk (m := (plLSa exQSa (hdV ob) (hdV rg) (hdV pg) (hdV hd0))) rfl rfl (HK1.out.below h_) Tryz.underlying30 rfl (by kernel_rfl) rfl) (h := ?_)
  refine wpAnyH_ready (rs := [5]) (by as_aux_lemma => kernel_rfl) (by simp) ?_
  refine AllReadyH.cons rfl (fun K hK => ?_) AllReadyH.nil
  go_simp
  go_at_call 17
  (with_reducible refine (Full_r exQSa ob rg pg hd0 _ 4 (by decide)).mono ?_)
  rintro x wn ⟨rfl, hb⟩
  have HBC := hide (bcall HBC.out hb)
  clear hb
  (try go_simp)
  refine hK.out _ _ (by exact HBC.out) (fun hHeld => ?_)
  clear hK
  (try simp only [Act.put, List.setIfInBounds_toArray, List.set_cons_zero, List.set_cons_succ])
  refine tkx 6 (h := ?_)
  refine tkx 7 (h := ?_)
  refine tkx 8 (h := ?_)
  refine tkx 9 (hy := fun w_ h_ => ex_loadk (m := (plLSa exQSa (hdV ob) (hdV rg) (hdV pg) (hdV hd0))) rfl rfl (HK1.out.below h_) Tryz.underlying30 rfl (by kernel_rfl) rfl) (h := ?_)
  refine wpAnyH_ready (rs := [10]) (by as_aux_lemma => kernel_rfl) (by simp) ?_
  refine AllReadyH.cons rfl (fun K hK => ?_) AllReadyH.nil
  go_simp
  go_at_call 19
  (with_reducible refine (Empty_r exQSa ob rg pg hd0 _ 5 (by decide)).mono ?_)
  rintro x wn ⟨rfl, hb⟩
  have HBC := hide (bcall HBC.out hb)
  clear hb
  (try go_simp)
  refine hK.out _ _ (by exact HBC.out) (fun hHeld => ?_)
  clear hK
  (try simp only [Act.put, List.setIfInBounds_toArray, List.set_cons_zero, List.set_cons_succ])
  refine tkx 11 (h := ?_)
  refine tkx 12 (h := ?_)
  refine tkx 13 (h := ?_)
  refine tkx 14 (hy := fun w_ h_ => ex_loadk (m := (plLSa exQSa (hdV ob) (hdV rg) (hdV pg) (hdV hd0))) rfl rfl (HK1.out.below h_) Tryz.underlying30 rfl (by kernel_rfl) rfl) (h := ?_)
  refine wpAnyH_ready (rs := [15]) (by as_aux_lemma => kernel_rfl) (by simp) ?_
  refine AllReadyH.cons rfl (fun K hK => ?_) AllReadyH.nil
  go_simp
  go_at_call 21
  (with_reducible refine (Next_r exQSa ob rg pg hd0 _ 5 (by decide)).mono ?_)
  rintro x wn ⟨rfl, hb⟩
  have HBC := hide (bcall HBC.out hb)
  clear hb
  (try go_simp)
  refine hK.out _ _ (by exact HBC.out) (fun hHeld => ?_)
  clear hK
  (try simp only [Act.put, List.setIfInBounds_toArray, List.set_cons_zero, List.set_cons_succ])
  refine tkx 16 (h := ?_)
  refine tkx 17 (h := ?_)
  refine tkx 18 (h := ?_)
  refine tkx 19 (h := ?_)
  refine tkx 20 (hy := fun w_ h_ => ex_loadc rfl rfl (kept_c h_ HC20.out) Tryz.underlying3 rfl) (h := ?_)
  refine tkx 21 (h := ?_)
  refine tkx 22 (h := ?_)
  refine tkx 23 (h := ?_)
  refine tkx 24 (h := ?_)
  refine tkx 25 (h := ?_)
  refine tkx 26 (hy := fun w_ h_ => ex_loadc rfl rfl (kept_c h_ HC18.out) Tryz.underlying26 rfl) (h := ?_)
  refine tkx 27 (h := ?_)
  refine tkx 28 (h := ?_)
  as_aux_lemma =>
    refine tkx 29 (h := ?_)
    refine tkx 30 (h := ?_)
    refine tkx 31 (h := ?_)
    refine tkx 32 (hy := fun w_ h_ => ex_loadc rfl rfl (kept_c h_ HC19.out) Tryz.underlying26 rfl) (h := ?_)
    refine tkx 33 (h := ?_)
    refine tkx 34 (h := ?_)
    refine tkx 35 (h := ?_)
    refine tkx 36 (h := ?_)
    refine tkx 37 (hy := fun w_ h_ => ex_loadc rfl rfl (kept_c h_ HC17.out) Tryz.underlying22 rfl) (h := ?_)
    refine tkx 38 (h := ?_)
    refine tkx 39 (hy := fun w_ h_ => ex_loadc rfl rfl (kept_c h_ HB1.out) Tryz.underlying47 rfl) (h := ?_)
    refine tkx 40 (h := ?_)
    refine tkx 41 (h := ?_)
    refine tkx 42 (h := ?_)
    refine tkx 43 (h := ?_)
    refine tkx 44 (h := ?_)
    refine tkx 45 (hy := fun w_ h_ => ex_loadc rfl rfl (kept_c h_ HC17.out) Tryz.underlying22 rfl) (h := ?_)
    refine tkx 46 (h := ?_)
    refine tkx 47 (hy := fun w_ h_ => ex_loadc rfl rfl (kept_c h_ HB1.out) Tryz.underlying47 rfl) (h := ?_)
    refine tkx 48 (h := ?_)
    refine tkx 49 (hy := fun w_ h_ => ex_loadc rfl rfl (kept_c h_ HB2.out) Tryz.underlying3 rfl) (h := ?_)
    refine tkx 50 (h := ?_)
    refine tkx 51 (h := ?_)
    refine tkx 52 (h := ?_)
    refine tkx 53 (h := ?_)
    refine tkx 54 (hy := fun w_ h_ => ex_loadc rfl rfl (kept_c h_ HC16.out) Tryz.underlying58 rfl) (h := ?_)
    refine tkx 55 (h := ?_)
    refine tkx 56 (hy := fun w_ h_ => ex_loadc rfl rfl (kept_c h_ HM.out.1) Tryz.underlying25 rfl) (h := ?_)
    refine tkx 57 (h := ?_)
    as_aux_lemma =>
      refine tkx 58 (h := ?_)
      refine tkx 59 (h := ?_)
      refine tkx 60 (h := ?_)
      refine tkx 61 (hy := fun w_ h_ => ex_loadc rfl rfl (kept_c h_ HC16.out) Tryz.underlying58 rfl) (h := ?_)
      refine tkx 62 (h := ?_)
      refine tkx 63 (hy := fun w_ h_ => ex_loadc rfl rfl (kept_c h_ HM.out.2.1) Tryz.underlying25 rfl) (h := ?_)
      refine tkx 64 (h := ?_)
      refine tkx 65 (h := ?_)
      refine tkx 66 (h := ?_)
      refine tkx 67 (h := ?_)
      refine tkx 68 (hy := fun w_ h_ => ex_loadc rfl rfl (kept_c h_ HC16.out) Tryz.underlying58 rfl) (h := ?_)
      refine tkx 69 (h := ?_)
      refine tkx 70 (hy := fun w_ h_ => ex_loadc rfl rfl (kept_c h_ HM.out.2.2.1) Tryz.underlying25 rfl) (h := ?_)
      refine tkx 71 (h := ?_)
      refine tkx 72 (h := ?_)
      refine tkx 73 (h := ?_)
      refine tkx 74 (h := ?_)
      refine tkx 75 (hy := fun w_ h_ => ex_loadc rfl rfl (kept_c h_ HC16.out) Tryz.underlying58 rfl) (h := ?_)
      refine tkx 76 (h := ?_)
      refine tkx 77 (hy := fun w_ h_ => ex_loadc rfl rfl (kept_c h_ HM.out.2.2.2.1) Tryz.underlying25 rfl) (h := ?_)
      refine tkx 78 (h := ?_)
      refine tkx 79 (h := ?_)
      refine tkx 80 (h := ?_)
      refine tkx 81 (h := ?_)
      refine tkx 82 (hy := fun w_ h_ => ex_loadc rfl rfl (kept_c h_ HC16.out) Tryz.underlying58 rfl) (h := ?_)
      refine tkx 83 (h := ?_)
      refine tkx 84 (hy := fun w_ h_ => ex_loadc rfl rfl (kept_c h_ HM.out.2.2.2.2) Tryz.underlying25 rfl) (h := ?_)
      refine tkx 85 (h := ?_)
      refine tkx 86 (h := ?_)
      refine tkx 87 (h := ?_)
      refine tkx 88 (h := ?_)
      refine tkx 89 (hy := fun w_ h_ => ex_loadc rfl rfl (kept_c h_ HC30.out) Tryz.underlying62 rfl) (h := ?_)
      refine tkx 90 (h := ?_)
      as_aux_lemma =>
        refine tkx 91 (h := ?_)
        refine tkx 92 (hy := fun w_ h_ => ex_loadc rfl rfl (kept_c h_ HW.out.1) Tryz.underlying3 rfl) (h := ?_)
        refine tkx 93 (h := ?_)
        refine tkx 94 (h := ?_)
        refine tkx 95 (h := ?_)
        refine tkx 96 (h := ?_)
        refine tkx 97 (hy := fun w_ h_ => ex_loadc rfl rfl (kept_c h_ HC30.out) Tryz.underlying62 rfl) (h := ?_)
        refine tkx 98 (h := ?_)
        refine tkx 99 (h := ?_)
        refine tkx 100 (h := ?_)
        refine tkx 101 (hy := fun w_ h_ => ex_loadc rfl rfl (kept_c h_ HW.out.2) Tryz.underlying3 rfl) (h := ?_)
        refine tkx 102 (h := ?_)
        refine tkx 103 (h := ?_)
        refine tkx 104 (h := ?_)
        refine tkx 105 (h := ?_)
        refine tkx 106 (hy := fun w_ h_ => ex_loadc rfl rfl (kept_c h_ HC31.out) Tryz.underlying63 rfl) (h := ?_)
        refine tkx 107 (h := ?_)
        refine tkx 108 (h := ?_)
        refine tkx 109 (hy := fun w_ h_ => ex_loadc rfl rfl (kept_c h_ HU1.out) Tryz.underlying47 rfl) (h := ?_)
        refine tkx 110 (h := ?_)
        refine tkx 111 (hy := fun w_ h_ => ex_loadc rfl rfl (kept_c h_ HU2.out) Tryz.underlying3 rfl) (h := ?_)
        refine tkx 112 (h := ?_)
        refine tkx 113 (h := ?_)
        refine tkx 114 (h := ?_)
        refine tkx 115 (hy := fun w_ h_ => ex_loadk (m := (stL exSSa v)) rfl rfl (HK2.out.below h_) Tryz.underlying66 rfl (by kernel_rfl) rfl) (h := ?_)
        refine tkx 116 (hy := fun w_ h_ => ex_loadk (m := (stL exSSa v)) rfl rfl (HK2.out.below h_) Tryz.underlying66 rfl (by kernel_rfl) rfl) (h := ?_)
        refine wpAnyH_ready (rs := [117]) (by as_aux_lemma => kernel_rfl) (by simp) ?_
        refine AllReadyH.cons rfl (fun K hK => ?_) AllReadyH.nil
        go_simp
        go_at_call 25
        (with_reducible refine (copy_c v _ (HR.out.below HBC.out)).mono ?_)
        rintro x wn ⟨cv, rfl, hC, hb⟩
        have HCR := hide hC
        clear hC
        have HBC := hide (bcall HBC.out hb)
        clear hb
        (try go_simp)
        refine hK.out _ _ (by exact HBC.out) (fun hHeld => ?_)
        clear hK
        (try simp only [Act.put, List.setIfInBounds_toArray, List.set_cons_zero, List.set_cons_succ])
        as_aux_lemma =>
          refine wpAnyH_ready (rs := [118]) (by as_aux_lemma => kernel_rfl) (by simp) ?_
          refine AllReadyH.cons rfl (fun K hK => ?_) AllReadyH.nil
          go_simp
          go_at_call 24
          (with_reducible refine (same_tt v cv _ (HR.out.below HBC.out) HCR.out).mono ?_)
          rintro x wn ⟨rfl, hb⟩
          have HBC := hide (bcall HBC.out hb)
          clear hb
          (try go_simp)
          refine hK.out _ _ (by exact HBC.out) (fun hHeld => ?_)
          clear hK
          (try simp only [Act.put, List.setIfInBounds_toArray, List.set_cons_zero, List.set_cons_succ])
          refine tkx 119 (h := ?_)
          refine tkx 120 (h := ?_)
          refine tkx 121 (hy := fun w_ h_ => ex_loadk (m := (stL exSSa v)) rfl rfl (HK2.out.below h_) Tryz.underlying66 rfl (by kernel_rfl) rfl) (h := ?_)
          refine tkx 122 (hy := fun w_ h_ => ex_loadk (m := (stL zeroS nv)) rfl rfl (HK3.out.below h_) Tryz.underlying66 rfl (by kernel_rfl) rfl) (h := ?_)
          as_aux_lemma =>
            refine wpAnyH_ready (rs := [123]) (by as_aux_lemma => kernel_rfl) (by simp) ?_
            refine AllReadyH.cons rfl (fun K hK => ?_) AllReadyH.nil
            go_simp
            go_at_call 24
            (with_reducible refine (same_tf v nv _ (HR.out.below HBC.out) (HNR.out.below HBC.out)).mono ?_)
            rintro x wn ⟨rfl, hb⟩
            have HBC := hide (bcall HBC.out hb)
            clear hb
            (try go_simp)
            refine hK.out _ _ (by exact HBC.out) (fun hHeld => ?_)
            clear hK
            (try simp only [Act.put, List.setIfInBounds_toArray, List.set_cons_zero, List.set_cons_succ])
            refine tkx 124 (h := ?_)
            refine tkx 125 (h := ?_)
            refine tkx 126 (h := ?_)
            refine tkx 127 (h := ?_)
            refine tkx 128 (hy := fun w_ h_ => ex_loadc rfl rfl (kept_c h_ HC3M.out) Tryz.underlying58 rfl) (h := ?_)
            refine tkx 129 (h := ?_)
            refine tkx 130 (h := ?_)
            refine tkx 131 (h := ?_)
            refine tkx 132 (h := ?_)
            refine wpAnyH_done (by kernel_rfl) ?_ _
            go_wp2
            go_ret
            exact ⟨rfl, HBX.out.trans (HBC.out.mono HBX.out.size)⟩
end Go.Proofs.YtdmbcjckgfjcaaaGreatDoor
