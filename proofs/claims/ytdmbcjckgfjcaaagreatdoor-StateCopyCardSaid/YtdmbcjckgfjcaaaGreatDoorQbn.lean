import Derived.Test.YtdmbcjckgfjcaaaGreatDoorQbl
/- Layer state: a field turned. Written by tools/genstatet.py. -/
namespace Go.Proofs.YtdmbcjckgfjcaaaGreatDoor
open Go.RowKit Go.Joins Go.Shelf
set_option maxRecDepth 100000 in
set_option maxHeartbeats 4000000 in
theorem turned_5 (G : Nat) (wh at_ to : Nat) (q : Sq) (v : Sv) (w : World) (_hG : G ≤ w.heap.size) (hR : StR (er G w) v q) (hS : SmS q) (hw : wh < 256) (_ha : at_ < 256) (ht : to < 256) (hk : wh % 16 = 5) :
    Calls Tryz.prog 23 #[.agg #[.int .u8 (wh : Nat), .int .u8 (at_ : Nat), .int .u8 (to : Nat)], .agg (stL q v).toArray] w fun e w' => ∃ v' : Sv, e = .returned (.agg (stL { q with restarts := ((to % 8 : Nat) : Int) } v').toArray) ∧ StR (er G w') v' { q with restarts := ((to % 8 : Nat) : Int) } ∧ Below w.heap.size w w' := by
  obtain ⟨h0, h1, h2, h3, h4, h5, h6, h7⟩ := hR
  obtain ⟨s0, s1, s2, s3, s4, s5, s6⟩ := hS
  obtain ⟨w1, e1, k0, k1, k2, hb1, hs1⟩ := three_box w [.int .u8 (wh : Nat), .int .u8 (at_ : Nat), .int .u8 (to : Nat)] (stL q v) st0Sa 33 66 66
  have E1 := hide e1
  have K0 := hide k0
  have K1 := hide k1
  have K2 := hide k2
  have HB := hide hb1
  obtain ⟨n, hn, hn8⟩ : ∃ n : Nat, to % 8 = n ∧ n < 8 := ⟨_, rfl, Nat.mod_lt _ (by decide)⟩
  skip
  have z0 : w1.cell? ⟨w.heap.size, 0, none⟩ = some (.int .u8 (wh : Nat)) := k0.cell 0
  have z1 : w1.cell? ⟨w.heap.size, 1, none⟩ = some (.int .u8 (at_ : Nat)) := k0.cell 1
  have z2 : w1.cell? ⟨w.heap.size, 2, none⟩ = some (.int .u8 (to : Nat)) := k0.cell 2
  have t8 : (to : Int).tmod 8 = (n : Int) := by rw [Int.tmod_eq_emod_of_nonneg (by omega)]; omega
  have t16 : (wh : Int).tmod 16 = 5 := by rw [Int.tmod_eq_emod_of_nonneg (by omega)]; omega
  have u8 : IntKind.u8.wrap (n : Int) = (n : Int) := by simp [IntKind.wrap, IntKind.bits, IntKind.signed]; omega
  have u64 : IntKind.i64.wrap (n : Int) = (n : Int) := by simp [IntKind.wrap, IntKind.bits, IntKind.signed]; omega
  have R0 := hide h0
  have R1 := hide h1
  have R2 := hide h2
  have R3 := hide h3
  have R4 := hide h4
  have R5 := hide h5
  have R6 := hide h6
  have R7 := hide h7
  have HS := hide hs1
  clear e1 k0 k1 k2 hb1 h0 h1 h2 h3 h4 h5 h6 h7 hs1
  go_enter Tryz.func23, Tryz.ntmps23
  go_upto_region 1 with (fail)
  rw [E1.out]
  have cz : w1.cell? ⟨w.heap.size + 1, 24, none⟩ = some (.int .i64 q.restarts) := K1.out.cell 24
  have fz := K1.out.free 24
  go_upto_region 34 with (fail)
  obtain ⟨wk, ek⟩ : ∃ W, w1.setCell ⟨w.heap.size + 1, 24, none⟩ (.int .i64 (n : Int)) = W := ⟨_, rfl⟩
  rw [ek]
  have hK1 := K1.out.set 24 (.int .i64 (n : Int))
  have hK2 := bc_other K2.out (by omega : w.heap.size + 2 ≠ w.heap.size + 1) 24 (.int .i64 (n : Int))
  have hHB := HB.out.setCell (p := ⟨w.heap.size + 1, 24, none⟩) (by simp : w.heap.size ≤ w.heap.size + 1) (.int .i64 (n : Int))
  rw [ek] at hK1 hK2 hHB
  have hsk : w.heap.size + 3 ≤ wk.heap.size := by have := HS.out; rw [← ek]; simp [World.setCell]; omega
  subst hn
  have HK1 := hide (show Bc 66 wk (w.heap.size + 1) (stL { q with restarts := ((to % 8 : Nat) : Int) } v) from hK1)
  have HK2 := hide hK2
  have HHB := hide hHB
  clear hK1 hK2 hHB ek cz fz z0 z1 z2 t8 t16 u8 u64
  have hbl : Below w.heap.size w (wk.setRow (w.heap.size + 2) (stL { q with restarts := ((to % 8 : Nat) : Int) } v).toArray) := below_setRow HHB.out (by omega) _
  have hel := rel_er_below (G := G) hbl
  have HN := hide (setRow_heap _ _ _ (stL { q with restarts := ((to % 8 : Nat) : Int) } v).toArray _ _ HK2.out)
  go_wp2_with (first
    | (refine wpList_load_row rfl 66 (.tmp 3) rfl (w.heap.size + 1) rfl (stL { q with restarts := ((to % 8 : Nat) : Int) } v).toArray _ _ _ HK1.out Tryz.underlying66 rfl (by kernel_rfl) ?_)
    | (refine wpList_store_row rfl 66 (.tmp 4) (.tmp 133) rfl (w.heap.size + 2) rfl (stL { q with restarts := ((to % 8 : Nat) : Int) } v).toArray rfl _ _ HK2.out (by kernel_rfl) rfl (stA_one { q with restarts := ((to % 8 : Nat) : Int) } v) ?_))
  refine bodyPost_ret (results_row Tryz.results23 (w.heap.size + 2) rfl _ _ _ _ HN.out Tryz.underlying66 rfl (by kernel_rfl)) rfl ?_
  have hbz := below_setRow HHB.out (by omega : w.heap.size ≤ w.heap.size + 2) (stL { q with restarts := ((to % 8 : Nat) : Int) } v).toArray
  have hgr := grown_row wk (w.heap.size + 2) (stL { q with restarts := ((to % 8 : Nat) : Int) } v).toArray
  skip
  exact ⟨v, rfl, ⟨R0.out.rel hel, R1.out.rel hel, Sl.rel R2.out hel, R3.out.rel hel, Sl.rel R4.out hel, Sl.rel R5.out hel, R6.out.rel hel, R7.out.rel hel⟩, hbz⟩
set_option maxRecDepth 100000 in
set_option maxHeartbeats 4000000 in
theorem turned_6 (G : Nat) (wh at_ to : Nat) (q : Sq) (v : Sv) (w : World) (_hG : G ≤ w.heap.size) (hR : StR (er G w) v q) (hS : SmS q) (hw : wh < 256) (_ha : at_ < 256) (ht : to < 256) (hk : wh % 16 = 6) :
    Calls Tryz.prog 23 #[.agg #[.int .u8 (wh : Nat), .int .u8 (at_ : Nat), .int .u8 (to : Nat)], .agg (stL q v).toArray] w fun e w' => ∃ v' : Sv, e = .returned (.agg (stL { q with dpc := ((to % 8 : Nat) : Int) } v').toArray) ∧ StR (er G w') v' { q with dpc := ((to % 8 : Nat) : Int) } ∧ Below w.heap.size w w' := by
  obtain ⟨h0, h1, h2, h3, h4, h5, h6, h7⟩ := hR
  obtain ⟨s0, s1, s2, s3, s4, s5, s6⟩ := hS
  obtain ⟨w1, e1, k0, k1, k2, hb1, hs1⟩ := three_box w [.int .u8 (wh : Nat), .int .u8 (at_ : Nat), .int .u8 (to : Nat)] (stL q v) st0Sa 33 66 66
  have E1 := hide e1
  have K0 := hide k0
  have K1 := hide k1
  have K2 := hide k2
  have HB := hide hb1
  obtain ⟨n, hn, hn8⟩ : ∃ n : Nat, to % 8 = n ∧ n < 8 := ⟨_, rfl, Nat.mod_lt _ (by decide)⟩
  skip
  have z0 : w1.cell? ⟨w.heap.size, 0, none⟩ = some (.int .u8 (wh : Nat)) := k0.cell 0
  have z1 : w1.cell? ⟨w.heap.size, 1, none⟩ = some (.int .u8 (at_ : Nat)) := k0.cell 1
  have z2 : w1.cell? ⟨w.heap.size, 2, none⟩ = some (.int .u8 (to : Nat)) := k0.cell 2
  have t8 : (to : Int).tmod 8 = (n : Int) := by rw [Int.tmod_eq_emod_of_nonneg (by omega)]; omega
  have t16 : (wh : Int).tmod 16 = 6 := by rw [Int.tmod_eq_emod_of_nonneg (by omega)]; omega
  have u8 : IntKind.u8.wrap (n : Int) = (n : Int) := by simp [IntKind.wrap, IntKind.bits, IntKind.signed]; omega
  have u64 : IntKind.i64.wrap (n : Int) = (n : Int) := by simp [IntKind.wrap, IntKind.bits, IntKind.signed]; omega
  have R0 := hide h0
  have R1 := hide h1
  have R2 := hide h2
  have R3 := hide h3
  have R4 := hide h4
  have R5 := hide h5
  have R6 := hide h6
  have R7 := hide h7
  have HS := hide hs1
  clear e1 k0 k1 k2 hb1 h0 h1 h2 h3 h4 h5 h6 h7 hs1
  go_enter Tryz.func23, Tryz.ntmps23
  go_upto_region 1 with (fail)
  rw [E1.out]
  have cz : w1.cell? ⟨w.heap.size + 1, 32, none⟩ = some (.int .i64 q.dpc) := K1.out.cell 32
  have fz := K1.out.free 32
  go_upto_region 34 with (fail)
  obtain ⟨wk, ek⟩ : ∃ W, w1.setCell ⟨w.heap.size + 1, 32, none⟩ (.int .i64 (n : Int)) = W := ⟨_, rfl⟩
  rw [ek]
  have hK1 := K1.out.set 32 (.int .i64 (n : Int))
  have hK2 := bc_other K2.out (by omega : w.heap.size + 2 ≠ w.heap.size + 1) 32 (.int .i64 (n : Int))
  have hHB := HB.out.setCell (p := ⟨w.heap.size + 1, 32, none⟩) (by simp : w.heap.size ≤ w.heap.size + 1) (.int .i64 (n : Int))
  rw [ek] at hK1 hK2 hHB
  have hsk : w.heap.size + 3 ≤ wk.heap.size := by have := HS.out; rw [← ek]; simp [World.setCell]; omega
  subst hn
  have HK1 := hide (show Bc 66 wk (w.heap.size + 1) (stL { q with dpc := ((to % 8 : Nat) : Int) } v) from hK1)
  have HK2 := hide hK2
  have HHB := hide hHB
  clear hK1 hK2 hHB ek cz fz z0 z1 z2 t8 t16 u8 u64
  have hbl : Below w.heap.size w (wk.setRow (w.heap.size + 2) (stL { q with dpc := ((to % 8 : Nat) : Int) } v).toArray) := below_setRow HHB.out (by omega) _
  have hel := rel_er_below (G := G) hbl
  have HN := hide (setRow_heap _ _ _ (stL { q with dpc := ((to % 8 : Nat) : Int) } v).toArray _ _ HK2.out)
  go_wp2_with (first
    | (refine wpList_load_row rfl 66 (.tmp 3) rfl (w.heap.size + 1) rfl (stL { q with dpc := ((to % 8 : Nat) : Int) } v).toArray _ _ _ HK1.out Tryz.underlying66 rfl (by kernel_rfl) ?_)
    | (refine wpList_store_row rfl 66 (.tmp 4) (.tmp 133) rfl (w.heap.size + 2) rfl (stL { q with dpc := ((to % 8 : Nat) : Int) } v).toArray rfl _ _ HK2.out (by kernel_rfl) rfl (stA_one { q with dpc := ((to % 8 : Nat) : Int) } v) ?_))
  refine bodyPost_ret (results_row Tryz.results23 (w.heap.size + 2) rfl _ _ _ _ HN.out Tryz.underlying66 rfl (by kernel_rfl)) rfl ?_
  have hbz := below_setRow HHB.out (by omega : w.heap.size ≤ w.heap.size + 2) (stL { q with dpc := ((to % 8 : Nat) : Int) } v).toArray
  have hgr := grown_row wk (w.heap.size + 2) (stL { q with dpc := ((to % 8 : Nat) : Int) } v).toArray
  skip
  exact ⟨v, rfl, ⟨R0.out.rel hel, R1.out.rel hel, Sl.rel R2.out hel, R3.out.rel hel, Sl.rel R4.out hel, Sl.rel R5.out hel, R6.out.rel hel, R7.out.rel hel⟩, hbz⟩
set_option maxRecDepth 100000 in
set_option maxHeartbeats 4000000 in
theorem turned_7 (G : Nat) (wh at_ to : Nat) (q : Sq) (v : Sv) (w : World) (_hG : G ≤ w.heap.size) (hR : StR (er G w) v q) (hS : SmS q) (hw : wh < 256) (_ha : at_ < 256) (ht : to < 256) (hk : wh % 16 = 7) :
    Calls Tryz.prog 23 #[.agg #[.int .u8 (wh : Nat), .int .u8 (at_ : Nat), .int .u8 (to : Nat)], .agg (stL q v).toArray] w fun e w' => ∃ v' : Sv, e = .returned (.agg (stL { q with l := { q.l with pool := ((to % 8 : Nat) : Int) } } v').toArray) ∧ StR (er G w') v' { q with l := { q.l with pool := ((to % 8 : Nat) : Int) } } ∧ Below w.heap.size w w' := by
  obtain ⟨h0, h1, h2, h3, h4, h5, h6, h7⟩ := hR
  obtain ⟨s0, s1, s2, s3, s4, s5, s6⟩ := hS
  obtain ⟨w1, e1, k0, k1, k2, hb1, hs1⟩ := three_box w [.int .u8 (wh : Nat), .int .u8 (at_ : Nat), .int .u8 (to : Nat)] (stL q v) st0Sa 33 66 66
  have E1 := hide e1
  have K0 := hide k0
  have K1 := hide k1
  have K2 := hide k2
  have HB := hide hb1
  obtain ⟨n, hn, hn8⟩ : ∃ n : Nat, to % 8 = n ∧ n < 8 := ⟨_, rfl, Nat.mod_lt _ (by decide)⟩
  skip
  have z0 : w1.cell? ⟨w.heap.size, 0, none⟩ = some (.int .u8 (wh : Nat)) := k0.cell 0
  have z1 : w1.cell? ⟨w.heap.size, 1, none⟩ = some (.int .u8 (at_ : Nat)) := k0.cell 1
  have z2 : w1.cell? ⟨w.heap.size, 2, none⟩ = some (.int .u8 (to : Nat)) := k0.cell 2
  have t8 : (to : Int).tmod 8 = (n : Int) := by rw [Int.tmod_eq_emod_of_nonneg (by omega)]; omega
  have t16 : (wh : Int).tmod 16 = 7 := by rw [Int.tmod_eq_emod_of_nonneg (by omega)]; omega
  have u8 : IntKind.u8.wrap (n : Int) = (n : Int) := by simp [IntKind.wrap, IntKind.bits, IntKind.signed]; omega
  have u64 : IntKind.i64.wrap (n : Int) = (n : Int) := by simp [IntKind.wrap, IntKind.bits, IntKind.signed]; omega
  have R0 := hide h0
  have R1 := hide h1
  have R2 := hide h2
  have R3 := hide h3
  have R4 := hide h4
  have R5 := hide h5
  have R6 := hide h6
  have R7 := hide h7
  have HS := hide hs1
  clear e1 k0 k1 k2 hb1 h0 h1 h2 h3 h4 h5 h6 h7 hs1
  go_enter Tryz.func23, Tryz.ntmps23
  go_upto_region 1 with (fail)
  rw [E1.out]
  have cz : w1.cell? ⟨w.heap.size + 1, 28, none⟩ = some (.int .i64 q.l.pool) := K1.out.cell 28
  have fz := K1.out.free 28
  go_upto_region 34 with (fail)
  obtain ⟨wk, ek⟩ : ∃ W, w1.setCell ⟨w.heap.size + 1, 28, none⟩ (.int .i64 (n : Int)) = W := ⟨_, rfl⟩
  rw [ek]
  have hK1 := K1.out.set 28 (.int .i64 (n : Int))
  have hK2 := bc_other K2.out (by omega : w.heap.size + 2 ≠ w.heap.size + 1) 28 (.int .i64 (n : Int))
  have hHB := HB.out.setCell (p := ⟨w.heap.size + 1, 28, none⟩) (by simp : w.heap.size ≤ w.heap.size + 1) (.int .i64 (n : Int))
  rw [ek] at hK1 hK2 hHB
  have hsk : w.heap.size + 3 ≤ wk.heap.size := by have := HS.out; rw [← ek]; simp [World.setCell]; omega
  subst hn
  have HK1 := hide (show Bc 66 wk (w.heap.size + 1) (stL { q with l := { q.l with pool := ((to % 8 : Nat) : Int) } } v) from hK1)
  have HK2 := hide hK2
  have HHB := hide hHB
  clear hK1 hK2 hHB ek cz fz z0 z1 z2 t8 t16 u8 u64
  have hbl : Below w.heap.size w (wk.setRow (w.heap.size + 2) (stL { q with l := { q.l with pool := ((to % 8 : Nat) : Int) } } v).toArray) := below_setRow HHB.out (by omega) _
  have hel := rel_er_below (G := G) hbl
  have HN := hide (setRow_heap _ _ _ (stL { q with l := { q.l with pool := ((to % 8 : Nat) : Int) } } v).toArray _ _ HK2.out)
  go_wp2_with (first
    | (refine wpList_load_row rfl 66 (.tmp 3) rfl (w.heap.size + 1) rfl (stL { q with l := { q.l with pool := ((to % 8 : Nat) : Int) } } v).toArray _ _ _ HK1.out Tryz.underlying66 rfl (by kernel_rfl) ?_)
    | (refine wpList_store_row rfl 66 (.tmp 4) (.tmp 133) rfl (w.heap.size + 2) rfl (stL { q with l := { q.l with pool := ((to % 8 : Nat) : Int) } } v).toArray rfl _ _ HK2.out (by kernel_rfl) rfl (stA_one { q with l := { q.l with pool := ((to % 8 : Nat) : Int) } } v) ?_))
  refine bodyPost_ret (results_row Tryz.results23 (w.heap.size + 2) rfl _ _ _ _ HN.out Tryz.underlying66 rfl (by kernel_rfl)) rfl ?_
  have hbz := below_setRow HHB.out (by omega : w.heap.size ≤ w.heap.size + 2) (stL { q with l := { q.l with pool := ((to % 8 : Nat) : Int) } } v).toArray
  have hgr := grown_row wk (w.heap.size + 2) (stL { q with l := { q.l with pool := ((to % 8 : Nat) : Int) } } v).toArray
  skip
  exact ⟨v, rfl, ⟨R0.out.rel hel, R1.out.rel hel, Sl.rel R2.out hel, R3.out.rel hel, Sl.rel R4.out hel, Sl.rel R5.out hel, R6.out.rel hel, R7.out.rel hel⟩, hbz⟩
set_option maxRecDepth 100000 in
set_option maxHeartbeats 4000000 in
theorem turned_11 (G : Nat) (wh at_ to : Nat) (q : Sq) (v : Sv) (w : World) (_hG : G ≤ w.heap.size) (hR : StR (er G w) v q) (hS : SmS q) (hw : wh < 256) (_ha : at_ < 256) (ht : to < 256) (hk : wh % 16 = 11) :
    Calls Tryz.prog 23 #[.agg #[.int .u8 (wh : Nat), .int .u8 (at_ : Nat), .int .u8 (to : Nat)], .agg (stL q v).toArray] w fun e w' => ∃ v' : Sv, e = .returned (.agg (stL { q with p := { q.p with cp := ((to % 8 : Nat) : Int) } } v').toArray) ∧ StR (er G w') v' { q with p := { q.p with cp := ((to % 8 : Nat) : Int) } } ∧ Below w.heap.size w w' := by
  obtain ⟨h0, h1, h2, h3, h4, h5, h6, h7⟩ := hR
  obtain ⟨s0, s1, s2, s3, s4, s5, s6⟩ := hS
  obtain ⟨w1, e1, k0, k1, k2, hb1, hs1⟩ := three_box w [.int .u8 (wh : Nat), .int .u8 (at_ : Nat), .int .u8 (to : Nat)] (stL q v) st0Sa 33 66 66
  have E1 := hide e1
  have K0 := hide k0
  have K1 := hide k1
  have K2 := hide k2
  have HB := hide hb1
  obtain ⟨n, hn, hn8⟩ : ∃ n : Nat, to % 8 = n ∧ n < 8 := ⟨_, rfl, Nat.mod_lt _ (by decide)⟩
  skip
  have z0 : w1.cell? ⟨w.heap.size, 0, none⟩ = some (.int .u8 (wh : Nat)) := k0.cell 0
  have z1 : w1.cell? ⟨w.heap.size, 1, none⟩ = some (.int .u8 (at_ : Nat)) := k0.cell 1
  have z2 : w1.cell? ⟨w.heap.size, 2, none⟩ = some (.int .u8 (to : Nat)) := k0.cell 2
  have t8 : (to : Int).tmod 8 = (n : Int) := by rw [Int.tmod_eq_emod_of_nonneg (by omega)]; omega
  have t16 : (wh : Int).tmod 16 = 11 := by rw [Int.tmod_eq_emod_of_nonneg (by omega)]; omega
  have u8 : IntKind.u8.wrap (n : Int) = (n : Int) := by simp [IntKind.wrap, IntKind.bits, IntKind.signed]; omega
  have u64 : IntKind.i64.wrap (n : Int) = (n : Int) := by simp [IntKind.wrap, IntKind.bits, IntKind.signed]; omega
  have R0 := hide h0
  have R1 := hide h1
  have R2 := hide h2
  have R3 := hide h3
  have R4 := hide h4
  have R5 := hide h5
  have R6 := hide h6
  have R7 := hide h7
  have HS := hide hs1
  clear e1 k0 k1 k2 hb1 h0 h1 h2 h3 h4 h5 h6 h7 hs1
  go_enter Tryz.func23, Tryz.ntmps23
  go_upto_region 1 with (fail)
  rw [E1.out]
  have cz : w1.cell? ⟨w.heap.size + 1, 2, none⟩ = some (.int .i64 q.p.cp) := K1.out.cell 2
  have fz := K1.out.free 2
  go_upto_region 34 with (fail)
  obtain ⟨wk, ek⟩ : ∃ W, w1.setCell ⟨w.heap.size + 1, 2, none⟩ (.int .i64 (n : Int)) = W := ⟨_, rfl⟩
  rw [ek]
  have hK1 := K1.out.set 2 (.int .i64 (n : Int))
  have hK2 := bc_other K2.out (by omega : w.heap.size + 2 ≠ w.heap.size + 1) 2 (.int .i64 (n : Int))
  have hHB := HB.out.setCell (p := ⟨w.heap.size + 1, 2, none⟩) (by simp : w.heap.size ≤ w.heap.size + 1) (.int .i64 (n : Int))
  rw [ek] at hK1 hK2 hHB
  have hsk : w.heap.size + 3 ≤ wk.heap.size := by have := HS.out; rw [← ek]; simp [World.setCell]; omega
  subst hn
  have HK1 := hide (show Bc 66 wk (w.heap.size + 1) (stL { q with p := { q.p with cp := ((to % 8 : Nat) : Int) } } v) from hK1)
  have HK2 := hide hK2
  have HHB := hide hHB
  clear hK1 hK2 hHB ek cz fz z0 z1 z2 t8 t16 u8 u64
  have hbl : Below w.heap.size w (wk.setRow (w.heap.size + 2) (stL { q with p := { q.p with cp := ((to % 8 : Nat) : Int) } } v).toArray) := below_setRow HHB.out (by omega) _
  have hel := rel_er_below (G := G) hbl
  have HN := hide (setRow_heap _ _ _ (stL { q with p := { q.p with cp := ((to % 8 : Nat) : Int) } } v).toArray _ _ HK2.out)
  go_wp2_with (first
    | (refine wpList_load_row rfl 66 (.tmp 3) rfl (w.heap.size + 1) rfl (stL { q with p := { q.p with cp := ((to % 8 : Nat) : Int) } } v).toArray _ _ _ HK1.out Tryz.underlying66 rfl (by kernel_rfl) ?_)
    | (refine wpList_store_row rfl 66 (.tmp 4) (.tmp 133) rfl (w.heap.size + 2) rfl (stL { q with p := { q.p with cp := ((to % 8 : Nat) : Int) } } v).toArray rfl _ _ HK2.out (by kernel_rfl) rfl (stA_one { q with p := { q.p with cp := ((to % 8 : Nat) : Int) } } v) ?_))
  refine bodyPost_ret (results_row Tryz.results23 (w.heap.size + 2) rfl _ _ _ _ HN.out Tryz.underlying66 rfl (by kernel_rfl)) rfl ?_
  have hbz := below_setRow HHB.out (by omega : w.heap.size ≤ w.heap.size + 2) (stL { q with p := { q.p with cp := ((to % 8 : Nat) : Int) } } v).toArray
  have hgr := grown_row wk (w.heap.size + 2) (stL { q with p := { q.p with cp := ((to % 8 : Nat) : Int) } } v).toArray
  skip
  exact ⟨v, rfl, ⟨⟨R0.out.ob.rel hel, R0.out.rg.rel hel, R0.out.pg.rel hel, Sl.rel R0.out.pk hel⟩, R1.out.rel hel, Sl.rel R2.out hel, R3.out.rel hel, Sl.rel R4.out hel, Sl.rel R5.out hel, R6.out.rel hel, R7.out.rel hel⟩, hbz⟩
set_option maxRecDepth 100000 in
set_option maxHeartbeats 4000000 in
theorem turned_15 (G : Nat) (wh at_ to : Nat) (q : Sq) (v : Sv) (w : World) (_hG : G ≤ w.heap.size) (hR : StR (er G w) v q) (hS : SmS q) (hw : wh < 256) (_ha : at_ < 256) (ht : to < 256) (hk : wh % 16 = 15) :
    Calls Tryz.prog 23 #[.agg #[.int .u8 (wh : Nat), .int .u8 (at_ : Nat), .int .u8 (to : Nat)], .agg (stL q v).toArray] w fun e w' => ∃ v' : Sv, e = .returned (.agg (stL { q with sl := ((to % 8 : Nat) : Int), ob := [[(at_ : Int)]] } v').toArray) ∧ StR (er G w') v' { q with sl := ((to % 8 : Nat) : Int), ob := [[(at_ : Int)]] } ∧ Below w.heap.size w w' := by
  obtain ⟨h0, h1, h2, h3, h4, h5, h6, h7⟩ := hR
  obtain ⟨s0, s1, s2, s3, s4, s5, s6⟩ := hS
  obtain ⟨w1, e1, k0, k1, k2, hb1, hs1⟩ := three_box w [.int .u8 (wh : Nat), .int .u8 (at_ : Nat), .int .u8 (to : Nat)] (stL q v) st0Sa 33 66 66
  have E1 := hide e1
  have K0 := hide k0
  have K1 := hide k1
  have K2 := hide k2
  have HB := hide hb1
  obtain ⟨n, hn, hn8⟩ : ∃ n : Nat, to % 8 = n ∧ n < 8 := ⟨_, rfl, Nat.mod_lt _ (by decide)⟩
  skip
  have z0 : w1.cell? ⟨w.heap.size, 0, none⟩ = some (.int .u8 (wh : Nat)) := k0.cell 0
  have z1 : w1.cell? ⟨w.heap.size, 1, none⟩ = some (.int .u8 (at_ : Nat)) := k0.cell 1
  have z2 : w1.cell? ⟨w.heap.size, 2, none⟩ = some (.int .u8 (to : Nat)) := k0.cell 2
  have t8 : (to : Int).tmod 8 = (n : Int) := by rw [Int.tmod_eq_emod_of_nonneg (by omega)]; omega
  have t16 : (wh : Int).tmod 16 = 15 := by rw [Int.tmod_eq_emod_of_nonneg (by omega)]; omega
  have u8 : IntKind.u8.wrap (n : Int) = (n : Int) := by simp [IntKind.wrap, IntKind.bits, IntKind.signed]; omega
  have u64 : IntKind.i64.wrap (n : Int) = (n : Int) := by simp [IntKind.wrap, IntKind.bits, IntKind.signed]; omega
  have R0 := hide h0
  have R1 := hide h1
  have R2 := hide h2
  have R3 := hide h3
  have R4 := hide h4
  have R5 := hide h5
  have R6 := hide h6
  have R7 := hide h7
  have HS := hide hs1
  clear e1 k0 k1 k2 hb1 h0 h1 h2 h3 h4 h5 h6 h7 hs1
  go_enter Tryz.func23, Tryz.ntmps23
  go_upto_region 1 with (fail)
  rw [E1.out]
  have wat : IntKind.i64.wrap (at_ : Int) = (at_ : Int) := by simp [IntKind.wrap, IntKind.bits, IntKind.signed]; omega
  have hsz1 := HS.out
  obtain ⟨wa, ea, sa, ba, oa⟩ := row_newN w1 [.int .i64 (at_ : Int)] 3 1 rfl
  have qa : wa.heap.size = w1.heap.size + 1 := by omega
  obtain ⟨wb, eb, sb, bb, ob⟩ := row_newN wa [.slice (some ⟨w1.heap.size, 0, none⟩) 1 1] 47 1 rfl
  have qb : wb.heap.size = w1.heap.size + 1 + 1 := by omega
  rw [qa] at ob
  have HBZ := hide (show Below w.heap.size w wb from HB.out.trans (Below.mono (bcall ba bb) (by omega)))
  have HK1a := hide (K1.out.below (bcall ba bb))
  have HK2a := hide (K2.out.below (bcall ba bb))
  have HEa := hide ea
  have HEb := hide eb
  have HOb := hide ob
  have HOa := hide (own_below oa bb)
  have hpz : wb.heap.size = w1.heap.size + 1 + 1 := qb
  have HPZ := hide hpz
  clear hsz1 ea eb sa sb ba bb oa ob qa qb hpz
  obtain ⟨m_, hm_⟩ : ∃ m, stL { q with sl := (n : Int), ob := [[(at_ : Int)]] } ⟨v.ob, v.rg, v.pg, v.pk, ((some ⟨w1.heap.size + 1, 0, none⟩, 1, 1) : Hd), v.m, v.bins, v.acks, v.bl, v.ws, v.ms⟩ = m := ⟨_, rfl⟩
  go_upto_region 34 with (rw [HEa.out, HEb.out]; refine wpList_store_bc rfl 24 (.tmp 20) (.tmp 19) rfl (w.heap.size + 1) 14 rfl [.int .i64 (n : Int), hdV ((some ⟨w1.heap.size + 1, 0, none⟩, 1, 1) : Hd)] rfl _ _ HK1a.out (by kernel_rfl) (Nat.le_of_ble_eq_true rfl) (List.all_eq_true.1 rfl) (stL { q with sl := (n : Int), ob := [[(at_ : Int)]] } ⟨v.ob, v.rg, v.pg, v.pk, ((some ⟨w1.heap.size + 1, 0, none⟩, 1, 1) : Hd), v.m, v.bins, v.acks, v.bl, v.ws, v.ms⟩) rfl ?_)
  have hsz1 := HS.out
  subst hn
  obtain ⟨wk, ek⟩ : ∃ W, wb.setRow (w.heap.size + 1) (stL { q with sl := ((to % 8 : Nat) : Int), ob := [[(at_ : Int)]] } ⟨v.ob, v.rg, v.pg, v.pk, ((some ⟨w1.heap.size + 1, 0, none⟩, 1, 1) : Hd), v.m, v.bins, v.acks, v.bl, v.ws, v.ms⟩).toArray = W := ⟨_, rfl⟩
  rw [ek]
  have hK1 := bc_row HK1a.out (stL { q with sl := ((to % 8 : Nat) : Int), ob := [[(at_ : Int)]] } ⟨v.ob, v.rg, v.pg, v.pk, ((some ⟨w1.heap.size + 1, 0, none⟩, 1, 1) : Hd), v.m, v.bins, v.acks, v.bl, v.ws, v.ms⟩)
  have hK2 := bc_rowO HK2a.out (by omega : w.heap.size + 2 ≠ w.heap.size + 1) (stL { q with sl := ((to % 8 : Nat) : Int), ob := [[(at_ : Int)]] } ⟨v.ob, v.rg, v.pg, v.pk, ((some ⟨w1.heap.size + 1, 0, none⟩, 1, 1) : Hd), v.m, v.bins, v.acks, v.bl, v.ws, v.ms⟩).toArray
  have hHB := below_setRow HBZ.out (by omega : w.heap.size ≤ w.heap.size + 1) (stL { q with sl := ((to % 8 : Nat) : Int), ob := [[(at_ : Int)]] } ⟨v.ob, v.rg, v.pg, v.pk, ((some ⟨w1.heap.size + 1, 0, none⟩, 1, 1) : Hd), v.m, v.bins, v.acks, v.bl, v.ws, v.ms⟩).toArray
  have g1 := grown_row wb (w.heap.size + 1) (stL { q with sl := ((to % 8 : Nat) : Int), ob := [[(at_ : Int)]] } ⟨v.ob, v.rg, v.pg, v.pk, ((some ⟨w1.heap.size + 1, 0, none⟩, 1, 1) : Hd), v.m, v.bins, v.acks, v.bl, v.ws, v.ms⟩).toArray
  rw [ek] at hK1 hK2 hHB g1
  have HK1 := hide hK1
  have HK2 := hide hK2
  have HHB := hide hHB
  clear hK1 hK2 hHB ek z0 z1 z2
  have hbl : Below w.heap.size w (wk.setRow (w.heap.size + 2) (stL { q with sl := ((to % 8 : Nat) : Int), ob := [[(at_ : Int)]] } ⟨v.ob, v.rg, v.pg, v.pk, ((some ⟨w1.heap.size + 1, 0, none⟩, 1, 1) : Hd), v.m, v.bins, v.acks, v.bl, v.ws, v.ms⟩).toArray) := below_setRow HHB.out (by omega) _
  have hel := rel_er_below (G := G) hbl
  have g2 := grown_row wk (w.heap.size + 2) (stL { q with sl := ((to % 8 : Nat) : Int), ob := [[(at_ : Int)]] } ⟨v.ob, v.rg, v.pg, v.pk, ((some ⟨w1.heap.size + 1, 0, none⟩, 1, 1) : Hd), v.m, v.bins, v.acks, v.bl, v.ws, v.ms⟩).toArray
  have hOw := own_grown (own_grown (own_grown HOb.out g1 (by omega)) g2 (by omega)) (er_grown G _) (by omega)
  have HA0 := own_grown (own_grown (own_grown HOa.out g1 (by omega)) g2 (by omega)) (er_grown G _) (by omega)
  have hGr : Grid (er G (wk.setRow (w.heap.size + 2) (stL { q with sl := ((to % 8 : Nat) : Int), ob := [[(at_ : Int)]] } ⟨v.ob, v.rg, v.pg, v.pk, ((some ⟨w1.heap.size + 1, 0, none⟩, 1, 1) : Hd), v.m, v.bins, v.acks, v.bl, v.ws, v.ms⟩).toArray)) (hdV ((some ⟨w1.heap.size + 1, 0, none⟩, 1, 1) : Hd)) [[(at_ : Int)]] := grid_consSa (hs := []) (x := ((some ⟨w1.heap.size, 0, none⟩, 1, 1) : Hd)) (ls := []) hOw (Sl.of_own (l := [(at_ : Int)]) ic_len HA0) rfl (by simp)
  have HN := hide (setRow_heap _ _ _ (stL { q with sl := ((to % 8 : Nat) : Int), ob := [[(at_ : Int)]] } ⟨v.ob, v.rg, v.pg, v.pk, ((some ⟨w1.heap.size + 1, 0, none⟩, 1, 1) : Hd), v.m, v.bins, v.acks, v.bl, v.ws, v.ms⟩).toArray _ _ HK2.out)
  go_wp2_with (first
    | (refine wpList_load_row rfl 66 (.tmp 3) rfl (w.heap.size + 1) rfl (stL { q with sl := ((to % 8 : Nat) : Int), ob := [[(at_ : Int)]] } ⟨v.ob, v.rg, v.pg, v.pk, ((some ⟨w1.heap.size + 1, 0, none⟩, 1, 1) : Hd), v.m, v.bins, v.acks, v.bl, v.ws, v.ms⟩).toArray _ _ _ HK1.out Tryz.underlying66 rfl (by kernel_rfl) ?_)
    | (refine wpList_store_row rfl 66 (.tmp 4) (.tmp 133) rfl (w.heap.size + 2) rfl (stL { q with sl := ((to % 8 : Nat) : Int), ob := [[(at_ : Int)]] } ⟨v.ob, v.rg, v.pg, v.pk, ((some ⟨w1.heap.size + 1, 0, none⟩, 1, 1) : Hd), v.m, v.bins, v.acks, v.bl, v.ws, v.ms⟩).toArray rfl _ _ HK2.out (by kernel_rfl) rfl (stA_one { q with sl := ((to % 8 : Nat) : Int), ob := [[(at_ : Int)]] } ⟨v.ob, v.rg, v.pg, v.pk, ((some ⟨w1.heap.size + 1, 0, none⟩, 1, 1) : Hd), v.m, v.bins, v.acks, v.bl, v.ws, v.ms⟩) ?_))
  refine bodyPost_ret (results_row Tryz.results23 (w.heap.size + 2) rfl _ _ _ _ HN.out Tryz.underlying66 rfl (by kernel_rfl)) rfl ?_
  have hbz := below_setRow HHB.out (by omega : w.heap.size ≤ w.heap.size + 2) (stL { q with sl := ((to % 8 : Nat) : Int), ob := [[(at_ : Int)]] } ⟨v.ob, v.rg, v.pg, v.pk, ((some ⟨w1.heap.size + 1, 0, none⟩, 1, 1) : Hd), v.m, v.bins, v.acks, v.bl, v.ws, v.ms⟩).toArray
  have hgr := grown_row wk (w.heap.size + 2) (stL { q with sl := ((to % 8 : Nat) : Int), ob := [[(at_ : Int)]] } ⟨v.ob, v.rg, v.pg, v.pk, ((some ⟨w1.heap.size + 1, 0, none⟩, 1, 1) : Hd), v.m, v.bins, v.acks, v.bl, v.ws, v.ms⟩).toArray
  skip
  exact ⟨⟨v.ob, v.rg, v.pg, v.pk, ((some ⟨w1.heap.size + 1, 0, none⟩, 1, 1) : Hd), v.m, v.bins, v.acks, v.bl, v.ws, v.ms⟩, rfl, ⟨R0.out.rel hel, hGr, Sl.rel R2.out hel, R3.out.rel hel, Sl.rel R4.out hel, Sl.rel R5.out hel, R6.out.rel hel, R7.out.rel hel⟩, hbz⟩
end Go.Proofs.YtdmbcjckgfjcaaaGreatDoor
/- Layer state: a field turned. Written by tools/genstatet.py. -/
namespace Go.Proofs.YtdmbcjckgfjcaaaGreatDoor
open Go.RowKit Go.Joins Go.Shelf
set_option maxRecDepth 100000 in
set_option maxHeartbeats 4000000 in
theorem turned_8 (G : Nat) (wh at_ to : Nat) (q : Sq) (v : Sv) (w : World) (_hG : G ≤ w.heap.size) (hR : StR (er G w) v q) (hS : SmS q) (hw : wh < 256) (_ha : at_ < 256) (ht : to < 256) (hk : wh % 16 = 8) :
    Calls Tryz.prog 23 #[.agg #[.int .u8 (wh : Nat), .int .u8 (at_ : Nat), .int .u8 (to : Nat)], .agg (stL q v).toArray] w fun e w' => ∃ v' : Sv, e = .returned (.agg (stL { q with bins := [((to % 8 : Nat) : Int)] :: q.bins } v').toArray) ∧ StR (er G w') v' { q with bins := [((to % 8 : Nat) : Int)] :: q.bins } ∧ Below w.heap.size w w' := by
  obtain ⟨h0, h1, h2, h3, h4, h5, h6, h7⟩ := hR
  obtain ⟨s0, s1, s2, s3, s4, s5, s6⟩ := hS
  obtain ⟨w1, e1, k0, k1, k2, hb1, hs1⟩ := three_box w [.int .u8 (wh : Nat), .int .u8 (at_ : Nat), .int .u8 (to : Nat)] (stL q v) st0Sa 33 66 66
  have E1 := hide e1
  have K0 := hide k0
  have K1 := hide k1
  have K2 := hide k2
  have HB := hide hb1
  obtain ⟨n, hn, hn8⟩ : ∃ n : Nat, to % 8 = n ∧ n < 8 := ⟨_, rfl, Nat.mod_lt _ (by decide)⟩
  skip
  have z0 : w1.cell? ⟨w.heap.size, 0, none⟩ = some (.int .u8 (wh : Nat)) := k0.cell 0
  have z1 : w1.cell? ⟨w.heap.size, 1, none⟩ = some (.int .u8 (at_ : Nat)) := k0.cell 1
  have z2 : w1.cell? ⟨w.heap.size, 2, none⟩ = some (.int .u8 (to : Nat)) := k0.cell 2
  have t8 : (to : Int).tmod 8 = (n : Int) := by rw [Int.tmod_eq_emod_of_nonneg (by omega)]; omega
  have t16 : (wh : Int).tmod 16 = 8 := by rw [Int.tmod_eq_emod_of_nonneg (by omega)]; omega
  have u8 : IntKind.u8.wrap (n : Int) = (n : Int) := by simp [IntKind.wrap, IntKind.bits, IntKind.signed]; omega
  have u64 : IntKind.i64.wrap (n : Int) = (n : Int) := by simp [IntKind.wrap, IntKind.bits, IntKind.signed]; omega
  have R0 := hide h0
  have R1 := hide h1
  have R2 := hide h2
  have R3 := hide h3
  have R4 := hide h4
  have R5 := hide h5
  have R6 := hide h6
  have R7 := hide h7
  have HS := hide hs1
  clear e1 k0 k1 k2 hb1 h0 h1 h2 h3 h4 h5 h6 h7 hs1
  go_enter Tryz.func23, Tryz.ntmps23
  go_upto_region 1 with (fail)
  rw [E1.out]
  obtain ⟨i0, hi, hz0, hz1, hz2⟩ := info_parts infoRow
  obtain ⟨hs, gh1, gh2, gh3⟩ := grid_hd R3.out
  have hsz1 := HS.out
  obtain ⟨wa, ea, sa, ba, oa⟩ := row_newN w1 [.int .i64 (n : Int)] 3 1 rfl
  have qa : wa.heap.size = w1.heap.size + 1 := by omega
  obtain ⟨wb, eb, sb, bb, ob⟩ := row_newN wa [.slice (some ⟨w1.heap.size, 0, none⟩) 1 1] 47 1 rfl
  have qb : wb.heap.size = w1.heap.size + 1 + 1 := by omega
  rw [qa] at ob
  have HBZ := hide (show Below w.heap.size w wb from HB.out.trans (Below.mono (bcall ba bb) (by omega)))
  have HK1a := hide (K1.out.below (bcall ba bb))
  have HK2a := hide (K2.out.below (bcall ba bb))
  have HEa := hide ea
  have HOa := hide oa
  have HEb := hide eb
  have HOb := hide ob
  have HTa := hide (show Below wa.heap.size wa wb from bb)
  have hpz : wb.heap.size = w1.heap.size + 1 + 1 := qb
  have HPZ := hide hpz
  have HLEN := hide (show hs.length = q.bins.length from gh2)
  skip
  clear hsz1 ea sa ba oa qa eb sb bb ob qb hpz
  have cz : wb.cell? ⟨w.heap.size + 1, 17, none⟩ = some (hdV v.bins) := HK1a.out.cell 17
  have HBI := hide (show q.bins.length * 24 ≤ 140737488351232 from s2.2)
  go_upto_region 34 with (first
    | (at_builtin; refine wpList_append_sl _ rfl _ _ 22 rfl (w1.heap.size + 1) 47 i0 (.slice none 0 0) 1 24 Tryz.underlying22 hi hz0 hz1 hz2 rfl (by decide) _ 1 _ rfl HOb.out _ hs rfl ((Sl.rel gh1 (rel_er G w)).below HBZ.out) oh_len oh_one (by have := HLEN.out; have := HBI.out; unfold maxLen; omega) (by have := HLEN.out; have := HBI.out; omega) (by have := HPZ.out; omega) ?_; intro v_ wy hown hby; have HOW := hide hown; have HBY := hide hby; obtain ⟨x_, rfl⟩ := own_hd hown; have HK1y := hide ((hby.block (w.heap.size + 1) (by have := HS.out; omega)).trans HK1a.out); have HK2y := hide ((hby.block (w.heap.size + 2) (by have := HS.out; omega)).trans HK2a.out); have cy : wy.cell? ⟨w.heap.size + 1, 17, none⟩ = some (hdV v.bins) := (show Bc _ wy _ _ from HK1y.out).cell 17; have fy : wy.frozen? ⟨w.heap.size + 1, 17, none⟩ = false := (show Bc _ wy _ _ from HK1y.out).free 17; clear hown hby)
    | (rw [HEa.out, HEb.out]; refine wpList_loadc rfl _ _ rfl _ rfl _ cz _ Tryz.underlying22 rfl ?_))
  have hsz1 := HS.out
  obtain ⟨wk, ek⟩ : ∃ W, wy.setCell ⟨w.heap.size + 1, 17, none⟩ (hdV x_) = W := ⟨_, rfl⟩
  rw [ek]
  have hK1 := Bc.set (show Bc 66 wy (w.heap.size + 1) (stL q v) from HK1y.out) 17 (hdV x_)
  have hK2 := bc_other (show Bc 66 wy (w.heap.size + 2) st0Sa from HK2y.out) (by omega : w.heap.size + 2 ≠ w.heap.size + 1) 17 (hdV x_)
  have hBy : Below w.heap.size w wy := HBZ.out.trans (HBY.out.mono (by omega))
  have hHB := hBy.setCell (p := ⟨w.heap.size + 1, 17, none⟩) (by simp : w.heap.size ≤ w.heap.size + 1) (hdV x_)
  have g1 := grown_setSa wy (w.heap.size + 1) 17 (hdV x_)
  rw [ek] at hK1 hK2 hHB g1
  subst hn
  have HK1 := hide (show Bc 66 wk (w.heap.size + 1) (stL { q with bins := [((to % 8 : Nat) : Int)] :: q.bins } ⟨v.ob, v.rg, v.pg, v.pk, v.hob, v.m, x_, v.acks, v.bl, v.ws, v.ms⟩) from hK1)
  have HK2 := hide hK2
  have HHB := hide hHB
  clear hK1 hK2 hHB ek cz cy fy z0 z1 z2
  have hbl : Below w.heap.size w (wk.setRow (w.heap.size + 2) (stL { q with bins := [((to % 8 : Nat) : Int)] :: q.bins } ⟨v.ob, v.rg, v.pg, v.pk, v.hob, v.m, x_, v.acks, v.bl, v.ws, v.ms⟩).toArray) := below_setRow HHB.out (by omega) _
  have hel := rel_er_below (G := G) hbl
  have g2 := grown_row wk (w.heap.size + 2) (stL { q with bins := [((to % 8 : Nat) : Int)] :: q.bins } ⟨v.ob, v.rg, v.pg, v.pk, v.hob, v.m, x_, v.acks, v.bl, v.ws, v.ms⟩).toArray
  have hOw := own_grown (own_grown (own_grown HOW.out g1 (by omega)) g2 (by omega)) (er_grown G _) (by omega)
  have HA0 := own_grown (own_grown (own_grown (own_bel (own_below HOa.out HTa.out) HBY.out (by omega)) g1 (by omega)) g2 (by omega)) (er_grown G _) (by omega)
  have HN := hide (setRow_heap _ _ _ (stL { q with bins := [((to % 8 : Nat) : Int)] :: q.bins } ⟨v.ob, v.rg, v.pg, v.pk, v.hob, v.m, x_, v.acks, v.bl, v.ws, v.ms⟩).toArray _ _ HK2.out)
  go_wp2_with (first
    | (refine wpList_load_row rfl 66 (.tmp 3) rfl (w.heap.size + 1) rfl (stL { q with bins := [((to % 8 : Nat) : Int)] :: q.bins } ⟨v.ob, v.rg, v.pg, v.pk, v.hob, v.m, x_, v.acks, v.bl, v.ws, v.ms⟩).toArray _ _ _ HK1.out Tryz.underlying66 rfl (by kernel_rfl) ?_)
    | (refine wpList_store_row rfl 66 (.tmp 4) (.tmp 133) rfl (w.heap.size + 2) rfl (stL { q with bins := [((to % 8 : Nat) : Int)] :: q.bins } ⟨v.ob, v.rg, v.pg, v.pk, v.hob, v.m, x_, v.acks, v.bl, v.ws, v.ms⟩).toArray rfl _ _ HK2.out (by kernel_rfl) rfl (stA_one { q with bins := [((to % 8 : Nat) : Int)] :: q.bins } ⟨v.ob, v.rg, v.pg, v.pk, v.hob, v.m, x_, v.acks, v.bl, v.ws, v.ms⟩) ?_))
  refine bodyPost_ret (results_row Tryz.results23 (w.heap.size + 2) rfl _ _ _ _ HN.out Tryz.underlying66 rfl (by kernel_rfl)) rfl ?_
  have hbz := below_setRow HHB.out (by omega : w.heap.size ≤ w.heap.size + 2) (stL { q with bins := [((to % 8 : Nat) : Int)] :: q.bins } ⟨v.ob, v.rg, v.pg, v.pk, v.hob, v.m, x_, v.acks, v.bl, v.ws, v.ms⟩).toArray
  have hgr := grown_row wk (w.heap.size + 2) (stL { q with bins := [((to % 8 : Nat) : Int)] :: q.bins } ⟨v.ob, v.rg, v.pg, v.pk, v.hob, v.m, x_, v.acks, v.bl, v.ws, v.ms⟩).toArray
  skip
  exact ⟨⟨v.ob, v.rg, v.pg, v.pk, v.hob, v.m, x_, v.acks, v.bl, v.ws, v.ms⟩, rfl, ⟨R0.out.rel hel, R1.out.rel hel, Sl.rel R2.out hel, grid_consSa (x := ((some ⟨w1.heap.size, 0, none⟩, 1, 1) : Hd)) hOw (Sl.of_own (l := [((to % 8 : Nat) : Int)]) ic_len HA0) gh2 (fun i u l hu hl => (gh3 i u l hu hl).rel hel), Sl.rel R4.out hel, Sl.rel R5.out hel, R6.out.rel hel, R7.out.rel hel⟩, hbz⟩
set_option maxRecDepth 100000 in
set_option maxHeartbeats 4000000 in
theorem turned_9 (G : Nat) (wh at_ to : Nat) (q : Sq) (v : Sv) (w : World) (_hG : G ≤ w.heap.size) (hR : StR (er G w) v q) (hS : SmS q) (hw : wh < 256) (_ha : at_ < 256) (ht : to < 256) (hk : wh % 16 = 9) :
    Calls Tryz.prog 23 #[.agg #[.int .u8 (wh : Nat), .int .u8 (at_ : Nat), .int .u8 (to : Nat)], .agg (stL q v).toArray] w fun e w' => ∃ v' : Sv, e = .returned (.agg (stL { q with acks := ((to % 8 : Nat) : Int) :: q.acks } v').toArray) ∧ StR (er G w') v' { q with acks := ((to % 8 : Nat) : Int) :: q.acks } ∧ Below w.heap.size w w' := by
  obtain ⟨h0, h1, h2, h3, h4, h5, h6, h7⟩ := hR
  obtain ⟨s0, s1, s2, s3, s4, s5, s6⟩ := hS
  obtain ⟨w1, e1, k0, k1, k2, hb1, hs1⟩ := three_box w [.int .u8 (wh : Nat), .int .u8 (at_ : Nat), .int .u8 (to : Nat)] (stL q v) st0Sa 33 66 66
  have E1 := hide e1
  have K0 := hide k0
  have K1 := hide k1
  have K2 := hide k2
  have HB := hide hb1
  obtain ⟨n, hn, hn8⟩ : ∃ n : Nat, to % 8 = n ∧ n < 8 := ⟨_, rfl, Nat.mod_lt _ (by decide)⟩
  skip
  have z0 : w1.cell? ⟨w.heap.size, 0, none⟩ = some (.int .u8 (wh : Nat)) := k0.cell 0
  have z1 : w1.cell? ⟨w.heap.size, 1, none⟩ = some (.int .u8 (at_ : Nat)) := k0.cell 1
  have z2 : w1.cell? ⟨w.heap.size, 2, none⟩ = some (.int .u8 (to : Nat)) := k0.cell 2
  have t8 : (to : Int).tmod 8 = (n : Int) := by rw [Int.tmod_eq_emod_of_nonneg (by omega)]; omega
  have t16 : (wh : Int).tmod 16 = 9 := by rw [Int.tmod_eq_emod_of_nonneg (by omega)]; omega
  have u8 : IntKind.u8.wrap (n : Int) = (n : Int) := by simp [IntKind.wrap, IntKind.bits, IntKind.signed]; omega
  have u64 : IntKind.i64.wrap (n : Int) = (n : Int) := by simp [IntKind.wrap, IntKind.bits, IntKind.signed]; omega
  have R0 := hide h0
  have R1 := hide h1
  have R2 := hide h2
  have R3 := hide h3
  have R4 := hide h4
  have R5 := hide h5
  have R6 := hide h6
  have R7 := hide h7
  have HS := hide hs1
  clear e1 k0 k1 k2 hb1 h0 h1 h2 h3 h4 h5 h6 h7 hs1
  go_enter Tryz.func23, Tryz.ntmps23
  go_upto_region 1 with (fail)
  rw [E1.out]
  obtain ⟨i0, hi, hz0, hz1, hz2⟩ := info_parts infoInt
  have hsz1 := HS.out
  obtain ⟨wa, ea, sa, ba, oa⟩ := row_newN w1 [.int .i64 (n : Int)] 3 1 rfl
  have qa : wa.heap.size = w1.heap.size + 1 := by omega
  have HBZ := hide (show Below w.heap.size w wa from HB.out.trans (Below.mono (ba) (by omega)))
  have HK1a := hide (K1.out.below (ba))
  have HK2a := hide (K2.out.below (ba))
  have HEa := hide ea
  have HOa := hide oa
  have hpz : wa.heap.size = w1.heap.size + 1 := qa
  have HPZ := hide hpz
  have HLEN := hide (show q.acks.length = q.acks.length from rfl)
  skip
  clear hsz1 ea sa ba oa qa hpz
  have cz : wa.cell? ⟨w.heap.size + 1, 25, none⟩ = some (hdV v.acks) := HK1a.out.cell 25
  have HBI := hide (show q.acks.length * 8 ≤ 140737488351232 from s3)
  go_upto_region 34 with (first
    | (at_builtin; refine wpList_append_sl _ rfl _ _ 47 rfl (w1.heap.size) 3 i0 (.int .i64 0) 1 8 Tryz.underlying47 hi hz0 hz1 hz2 rfl (by decide) _ 1 _ rfl HOa.out _ q.acks rfl ((Sl.rel R4.out (rel_er G w)).below HBZ.out) ic_len ic_one1 (by have := HLEN.out; have := HBI.out; unfold maxLen; omega) (by have := HLEN.out; have := HBI.out; omega) (by have := HPZ.out; omega) ?_; intro v_ wy hown hby; have HOW := hide hown; have HBY := hide hby; obtain ⟨x_, rfl⟩ := own_hd hown; have HK1y := hide ((hby.block (w.heap.size + 1) (by have := HS.out; omega)).trans HK1a.out); have HK2y := hide ((hby.block (w.heap.size + 2) (by have := HS.out; omega)).trans HK2a.out); have cy : wy.cell? ⟨w.heap.size + 1, 25, none⟩ = some (hdV v.acks) := (show Bc _ wy _ _ from HK1y.out).cell 25; have fy : wy.frozen? ⟨w.heap.size + 1, 25, none⟩ = false := (show Bc _ wy _ _ from HK1y.out).free 25; clear hown hby)
    | (rw [HEa.out]; refine wpList_loadc rfl _ _ rfl _ rfl _ cz _ Tryz.underlying47 rfl ?_))
  have hsz1 := HS.out
  obtain ⟨wk, ek⟩ : ∃ W, wy.setCell ⟨w.heap.size + 1, 25, none⟩ (hdV x_) = W := ⟨_, rfl⟩
  rw [ek]
  have hK1 := Bc.set (show Bc 66 wy (w.heap.size + 1) (stL q v) from HK1y.out) 25 (hdV x_)
  have hK2 := bc_other (show Bc 66 wy (w.heap.size + 2) st0Sa from HK2y.out) (by omega : w.heap.size + 2 ≠ w.heap.size + 1) 25 (hdV x_)
  have hBy : Below w.heap.size w wy := HBZ.out.trans (HBY.out.mono (by omega))
  have hHB := hBy.setCell (p := ⟨w.heap.size + 1, 25, none⟩) (by simp : w.heap.size ≤ w.heap.size + 1) (hdV x_)
  have g1 := grown_setSa wy (w.heap.size + 1) 25 (hdV x_)
  rw [ek] at hK1 hK2 hHB g1
  subst hn
  have HK1 := hide (show Bc 66 wk (w.heap.size + 1) (stL { q with acks := ((to % 8 : Nat) : Int) :: q.acks } ⟨v.ob, v.rg, v.pg, v.pk, v.hob, v.m, v.bins, x_, v.bl, v.ws, v.ms⟩) from hK1)
  have HK2 := hide hK2
  have HHB := hide hHB
  clear hK1 hK2 hHB ek cz cy fy z0 z1 z2
  have hbl : Below w.heap.size w (wk.setRow (w.heap.size + 2) (stL { q with acks := ((to % 8 : Nat) : Int) :: q.acks } ⟨v.ob, v.rg, v.pg, v.pk, v.hob, v.m, v.bins, x_, v.bl, v.ws, v.ms⟩).toArray) := below_setRow HHB.out (by omega) _
  have hel := rel_er_below (G := G) hbl
  have g2 := grown_row wk (w.heap.size + 2) (stL { q with acks := ((to % 8 : Nat) : Int) :: q.acks } ⟨v.ob, v.rg, v.pg, v.pk, v.hob, v.m, v.bins, x_, v.bl, v.ws, v.ms⟩).toArray
  have hOw := own_grown (own_grown (own_grown HOW.out g1 (by omega)) g2 (by omega)) (er_grown G _) (by omega)
  have HN := hide (setRow_heap _ _ _ (stL { q with acks := ((to % 8 : Nat) : Int) :: q.acks } ⟨v.ob, v.rg, v.pg, v.pk, v.hob, v.m, v.bins, x_, v.bl, v.ws, v.ms⟩).toArray _ _ HK2.out)
  go_wp2_with (first
    | (refine wpList_load_row rfl 66 (.tmp 3) rfl (w.heap.size + 1) rfl (stL { q with acks := ((to % 8 : Nat) : Int) :: q.acks } ⟨v.ob, v.rg, v.pg, v.pk, v.hob, v.m, v.bins, x_, v.bl, v.ws, v.ms⟩).toArray _ _ _ HK1.out Tryz.underlying66 rfl (by kernel_rfl) ?_)
    | (refine wpList_store_row rfl 66 (.tmp 4) (.tmp 133) rfl (w.heap.size + 2) rfl (stL { q with acks := ((to % 8 : Nat) : Int) :: q.acks } ⟨v.ob, v.rg, v.pg, v.pk, v.hob, v.m, v.bins, x_, v.bl, v.ws, v.ms⟩).toArray rfl _ _ HK2.out (by kernel_rfl) rfl (stA_one { q with acks := ((to % 8 : Nat) : Int) :: q.acks } ⟨v.ob, v.rg, v.pg, v.pk, v.hob, v.m, v.bins, x_, v.bl, v.ws, v.ms⟩) ?_))
  refine bodyPost_ret (results_row Tryz.results23 (w.heap.size + 2) rfl _ _ _ _ HN.out Tryz.underlying66 rfl (by kernel_rfl)) rfl ?_
  have hbz := below_setRow HHB.out (by omega : w.heap.size ≤ w.heap.size + 2) (stL { q with acks := ((to % 8 : Nat) : Int) :: q.acks } ⟨v.ob, v.rg, v.pg, v.pk, v.hob, v.m, v.bins, x_, v.bl, v.ws, v.ms⟩).toArray
  have hgr := grown_row wk (w.heap.size + 2) (stL { q with acks := ((to % 8 : Nat) : Int) :: q.acks } ⟨v.ob, v.rg, v.pg, v.pk, v.hob, v.m, v.bins, x_, v.bl, v.ws, v.ms⟩).toArray
  skip
  exact ⟨⟨v.ob, v.rg, v.pg, v.pk, v.hob, v.m, v.bins, x_, v.bl, v.ws, v.ms⟩, rfl, ⟨R0.out.rel hel, R1.out.rel hel, Sl.rel R2.out hel, R3.out.rel hel, sl_cons ic_len hOw, Sl.rel R5.out hel, R6.out.rel hel, R7.out.rel hel⟩, hbz⟩
set_option maxRecDepth 100000 in
set_option maxHeartbeats 4000000 in
theorem turned_10 (G : Nat) (wh at_ to : Nat) (q : Sq) (v : Sv) (w : World) (_hG : G ≤ w.heap.size) (hR : StR (er G w) v q) (hS : SmS q) (hw : wh < 256) (_ha : at_ < 256) (ht : to < 256) (hk : wh % 16 = 10) :
    Calls Tryz.prog 23 #[.agg #[.int .u8 (wh : Nat), .int .u8 (at_ : Nat), .int .u8 (to : Nat)], .agg (stL q v).toArray] w fun e w' => ∃ v' : Sv, e = .returned (.agg (stL { q with m := ((to % 8 : Nat) : Int) :: q.m } v').toArray) ∧ StR (er G w') v' { q with m := ((to % 8 : Nat) : Int) :: q.m } ∧ Below w.heap.size w w' := by
  obtain ⟨h0, h1, h2, h3, h4, h5, h6, h7⟩ := hR
  obtain ⟨s0, s1, s2, s3, s4, s5, s6⟩ := hS
  obtain ⟨w1, e1, k0, k1, k2, hb1, hs1⟩ := three_box w [.int .u8 (wh : Nat), .int .u8 (at_ : Nat), .int .u8 (to : Nat)] (stL q v) st0Sa 33 66 66
  have E1 := hide e1
  have K0 := hide k0
  have K1 := hide k1
  have K2 := hide k2
  have HB := hide hb1
  obtain ⟨n, hn, hn8⟩ : ∃ n : Nat, to % 8 = n ∧ n < 8 := ⟨_, rfl, Nat.mod_lt _ (by decide)⟩
  skip
  have z0 : w1.cell? ⟨w.heap.size, 0, none⟩ = some (.int .u8 (wh : Nat)) := k0.cell 0
  have z1 : w1.cell? ⟨w.heap.size, 1, none⟩ = some (.int .u8 (at_ : Nat)) := k0.cell 1
  have z2 : w1.cell? ⟨w.heap.size, 2, none⟩ = some (.int .u8 (to : Nat)) := k0.cell 2
  have t8 : (to : Int).tmod 8 = (n : Int) := by rw [Int.tmod_eq_emod_of_nonneg (by omega)]; omega
  have t16 : (wh : Int).tmod 16 = 10 := by rw [Int.tmod_eq_emod_of_nonneg (by omega)]; omega
  have u8 : IntKind.u8.wrap (n : Int) = (n : Int) := by simp [IntKind.wrap, IntKind.bits, IntKind.signed]; omega
  have u64 : IntKind.i64.wrap (n : Int) = (n : Int) := by simp [IntKind.wrap, IntKind.bits, IntKind.signed]; omega
  have R0 := hide h0
  have R1 := hide h1
  have R2 := hide h2
  have R3 := hide h3
  have R4 := hide h4
  have R5 := hide h5
  have R6 := hide h6
  have R7 := hide h7
  have HS := hide hs1
  clear e1 k0 k1 k2 hb1 h0 h1 h2 h3 h4 h5 h6 h7 hs1
  go_enter Tryz.func23, Tryz.ntmps23
  go_upto_region 1 with (fail)
  rw [E1.out]
  obtain ⟨i0, hi, hz0, hz1, hz2⟩ := info_parts infoU
  have wu : IntKind.u64.wrap (n : Int) = (n : Int) := by simp [IntKind.wrap, IntKind.bits, IntKind.signed]; omega
  have hsz1 := HS.out
  obtain ⟨wa, ea, sa, ba, oa⟩ := row_newN w1 [.int .u64 (n : Int)] 25 1 rfl
  have qa : wa.heap.size = w1.heap.size + 1 := by omega
  have HBZ := hide (show Below w.heap.size w wa from HB.out.trans (Below.mono (ba) (by omega)))
  have HK1a := hide (K1.out.below (ba))
  have HK2a := hide (K2.out.below (ba))
  have HEa := hide ea
  have HOa := hide oa
  have hpz : wa.heap.size = w1.heap.size + 1 := qa
  have HPZ := hide hpz
  have HLEN := hide (show q.m.length = q.m.length from rfl)
  skip
  clear hsz1 ea sa ba oa qa hpz
  have cz : wa.cell? ⟨w.heap.size + 1, 16, none⟩ = some (hdV v.m) := HK1a.out.cell 16
  have HBI := hide (show q.m.length * 8 ≤ 140737488351232 from s1)
  go_upto_region 34 with (first
    | (at_builtin; refine wpList_append_slT _ rfl _ _ 44 58 rfl (w1.heap.size) 25 25 i0 (.int .u64 0) 1 8 Tryz.underlying44 Tryz.underlying58 hi hz0 hz1 hz2 rfl (by decide) _ 1 _ rfl HOa.out _ q.m rfl ((Sl.rel R2.out (rel_er G w)).below HBZ.out) uc_len uc_one1 (by have := HLEN.out; have := HBI.out; unfold maxLen; omega) (by have := HLEN.out; have := HBI.out; omega) (by have := HPZ.out; omega) ?_; intro v_ wy hown hby; have HOW := hide hown; have HBY := hide hby; obtain ⟨x_, rfl⟩ := own_hd hown; have HK1y := hide ((hby.block (w.heap.size + 1) (by have := HS.out; omega)).trans HK1a.out); have HK2y := hide ((hby.block (w.heap.size + 2) (by have := HS.out; omega)).trans HK2a.out); have cy : wy.cell? ⟨w.heap.size + 1, 16, none⟩ = some (hdV v.m) := (show Bc _ wy _ _ from HK1y.out).cell 16; have fy : wy.frozen? ⟨w.heap.size + 1, 16, none⟩ = false := (show Bc _ wy _ _ from HK1y.out).free 16; clear hown hby)
    | (rw [HEa.out]; refine wpList_loadc rfl _ _ rfl _ rfl _ cz _ Tryz.underlying58 rfl ?_))
  have hsz1 := HS.out
  obtain ⟨wk, ek⟩ : ∃ W, wy.setCell ⟨w.heap.size + 1, 16, none⟩ (hdV x_) = W := ⟨_, rfl⟩
  rw [ek]
  have hK1 := Bc.set (show Bc 66 wy (w.heap.size + 1) (stL q v) from HK1y.out) 16 (hdV x_)
  have hK2 := bc_other (show Bc 66 wy (w.heap.size + 2) st0Sa from HK2y.out) (by omega : w.heap.size + 2 ≠ w.heap.size + 1) 16 (hdV x_)
  have hBy : Below w.heap.size w wy := HBZ.out.trans (HBY.out.mono (by omega))
  have hHB := hBy.setCell (p := ⟨w.heap.size + 1, 16, none⟩) (by simp : w.heap.size ≤ w.heap.size + 1) (hdV x_)
  have g1 := grown_setSa wy (w.heap.size + 1) 16 (hdV x_)
  rw [ek] at hK1 hK2 hHB g1
  subst hn
  have HK1 := hide (show Bc 66 wk (w.heap.size + 1) (stL { q with m := ((to % 8 : Nat) : Int) :: q.m } ⟨v.ob, v.rg, v.pg, v.pk, v.hob, x_, v.bins, v.acks, v.bl, v.ws, v.ms⟩) from hK1)
  have HK2 := hide hK2
  have HHB := hide hHB
  clear hK1 hK2 hHB ek cz cy fy z0 z1 z2
  have hbl : Below w.heap.size w (wk.setRow (w.heap.size + 2) (stL { q with m := ((to % 8 : Nat) : Int) :: q.m } ⟨v.ob, v.rg, v.pg, v.pk, v.hob, x_, v.bins, v.acks, v.bl, v.ws, v.ms⟩).toArray) := below_setRow HHB.out (by omega) _
  have hel := rel_er_below (G := G) hbl
  have g2 := grown_row wk (w.heap.size + 2) (stL { q with m := ((to % 8 : Nat) : Int) :: q.m } ⟨v.ob, v.rg, v.pg, v.pk, v.hob, x_, v.bins, v.acks, v.bl, v.ws, v.ms⟩).toArray
  have hOw := own_grown (own_grown (own_grown HOW.out g1 (by omega)) g2 (by omega)) (er_grown G _) (by omega)
  have HN := hide (setRow_heap _ _ _ (stL { q with m := ((to % 8 : Nat) : Int) :: q.m } ⟨v.ob, v.rg, v.pg, v.pk, v.hob, x_, v.bins, v.acks, v.bl, v.ws, v.ms⟩).toArray _ _ HK2.out)
  go_wp2_with (first
    | (refine wpList_load_row rfl 66 (.tmp 3) rfl (w.heap.size + 1) rfl (stL { q with m := ((to % 8 : Nat) : Int) :: q.m } ⟨v.ob, v.rg, v.pg, v.pk, v.hob, x_, v.bins, v.acks, v.bl, v.ws, v.ms⟩).toArray _ _ _ HK1.out Tryz.underlying66 rfl (by kernel_rfl) ?_)
    | (refine wpList_store_row rfl 66 (.tmp 4) (.tmp 133) rfl (w.heap.size + 2) rfl (stL { q with m := ((to % 8 : Nat) : Int) :: q.m } ⟨v.ob, v.rg, v.pg, v.pk, v.hob, x_, v.bins, v.acks, v.bl, v.ws, v.ms⟩).toArray rfl _ _ HK2.out (by kernel_rfl) rfl (stA_one { q with m := ((to % 8 : Nat) : Int) :: q.m } ⟨v.ob, v.rg, v.pg, v.pk, v.hob, x_, v.bins, v.acks, v.bl, v.ws, v.ms⟩) ?_))
  refine bodyPost_ret (results_row Tryz.results23 (w.heap.size + 2) rfl _ _ _ _ HN.out Tryz.underlying66 rfl (by kernel_rfl)) rfl ?_
  have hbz := below_setRow HHB.out (by omega : w.heap.size ≤ w.heap.size + 2) (stL { q with m := ((to % 8 : Nat) : Int) :: q.m } ⟨v.ob, v.rg, v.pg, v.pk, v.hob, x_, v.bins, v.acks, v.bl, v.ws, v.ms⟩).toArray
  have hgr := grown_row wk (w.heap.size + 2) (stL { q with m := ((to % 8 : Nat) : Int) :: q.m } ⟨v.ob, v.rg, v.pg, v.pk, v.hob, x_, v.bins, v.acks, v.bl, v.ws, v.ms⟩).toArray
  skip
  exact ⟨⟨v.ob, v.rg, v.pg, v.pk, v.hob, x_, v.bins, v.acks, v.bl, v.ws, v.ms⟩, rfl, ⟨R0.out.rel hel, R1.out.rel hel, sl_cons uc_len hOw, R3.out.rel hel, Sl.rel R4.out hel, Sl.rel R5.out hel, R6.out.rel hel, R7.out.rel hel⟩, hbz⟩
end Go.Proofs.YtdmbcjckgfjcaaaGreatDoor
