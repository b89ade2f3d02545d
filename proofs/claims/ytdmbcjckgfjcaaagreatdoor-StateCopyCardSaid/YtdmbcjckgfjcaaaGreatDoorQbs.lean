import Derived.Test.YtdmbcjckgfjcaaaGreatDoorQbm
import Derived.Test.YtdmbcjckgfjcaaaGreatDoorQbn
import Derived.Test.YtdmbcjckgfjcaaaGreatDoorQbn
/- Layer state: a field turned. Written by tools/genstatet.py. -/
namespace Go.Proofs.YtdmbcjckgfjcaaaGreatDoor
open Go.RowKit Go.Joins Go.Shelf
set_option maxRecDepth 100000 in
set_option maxHeartbeats 4000000 in
theorem turned_12 (G : Nat) (wh at_ to : Nat) (q : Sq) (v : Sv) (w : World) (_hG : G ≤ w.heap.size) (hR : StR (er G w) v q) (hS : SmS q) (hw : wh < 256) (_ha : at_ < 256) (ht : to < 256) (hk : wh % 16 = 12) :
    Calls Tryz.prog 23 #[.agg #[.int .u8 (wh : Nat), .int .u8 (at_ : Nat), .int .u8 (to : Nat)], .agg (stL q v).toArray] w fun e w' => ∃ v' : Sv, e = .returned (.agg (stL { q with ws := ⟨((to % 8 : Nat) : Int), 0, 0, 0, 0, [(at_ : Int)], zeroMc, zeroCm, zeroG⟩ :: q.ws } v').toArray) ∧ StR (er G w') v' { q with ws := ⟨((to % 8 : Nat) : Int), 0, 0, 0, 0, [(at_ : Int)], zeroMc, zeroCm, zeroG⟩ :: q.ws } ∧ Below w.heap.size w w' := by
  obtain ⟨h0, h1, h2, h3, h4, h5, h6, h7⟩ := hR
  obtain ⟨s0, s1, s2, s3, s4, s5, s6⟩ := hS
  obtain ⟨w1, e1, k0, k1, k2, hb1, hs1⟩ := three_box w [.int .u8 (wh : Nat), .int .u8 (at_ : Nat), .int .u8 (to : Nat)] (stL q v) st0Sa 33 66 66
  have E1 := hide e1
  have K0 := hide k0
  have K1 := hide k1
  have K2 := hide k2
  have HB := hide hb1
  obtain ⟨n, hn, hn8⟩ : ∃ n : Nat, to % 8 = n ∧ n < 8 := ⟨_, rfl, Nat.mod_lt _ (by decide)⟩
  skip
  have z0 : w1.cell? ⟨w.heap.size, 0, none⟩ = some (.int .u8 (wh : Nat)) := k0.cell 0
  have z1 : w1.cell? ⟨w.heap.size, 1, none⟩ = some (.int .u8 (at_ : Nat)) := k0.cell 1
  have z2 : w1.cell? ⟨w.heap.size, 2, none⟩ = some (.int .u8 (to : Nat)) := k0.cell 2
  have t8 : (to : Int).tmod 8 = (n : Int) := by rw [Int.tmod_eq_emod_of_nonneg (by omega)]; omega
  have t16 : (wh : Int).tmod 16 = 12 := by rw [Int.tmod_eq_emod_of_nonneg (by omega)]; omega
  have u8 : IntKind.u8.wrap (n : Int) = (n : Int) := by simp [IntKind.wrap, IntKind.bits, IntKind.signed]; omega
  have u64 : IntKind.i64.wrap (n : Int) = (n : Int) := by simp [IntKind.wrap, IntKind.bits, IntKind.signed]; omega
  have R0 := hide h0
  have R1 := hide h1
  have R2 := hide h2
  have R3 := hide h3
  have R4 := hide h4
  have R5 := hide h5
  have R6 := hide h6
  have R7 := hide h7
  have HS := hide hs1
  clear e1 k0 k1 k2 hb1 h0 h1 h2 h3 h4 h5 h6 h7 hs1
  go_enter Tryz.func23, Tryz.ntmps23
  go_upto_region 1 with (fail)
  rw [E1.out]
  obtain ⟨i0, hi, hz0, hz1, hz2⟩ := info_parts infoWk
  obtain ⟨es, gh1, gh2, gh3⟩ := R6.out
  have wat : IntKind.i64.wrap (at_ : Int) = (at_ : Int) := by simp [IntKind.wrap, IntKind.bits, IntKind.signed]; omega
  have hsz1 := HS.out
  obtain ⟨wa, ea, sa, ba, oa⟩ := row_newN w1 [.int .i64 (at_ : Int)] 3 1 rfl
  have qa : wa.heap.size = w1.heap.size + 1 := by omega
  obtain ⟨wb, eb, sb, bb, ob⟩ := row_newN wa [.int .i64 (n : Int), .int .i64 0, .int .i64 0, .int .i64 0, .int .i64 0, .slice (some ⟨w1.heap.size, 0, none⟩) 1 1, .int .i64 0, .int .i64 0, .int .i64 0, .int .i64 0, .int .u64 0, .int .u64 0, .int .i64 0, .int .i64 0, .int .i64 0, .int .i64 0, .int .i64 0, .int .i64 0, .int .u64 0, .int .i64 0, .int .i64 0, .int .i64 0, .int .i64 0, .int .i64 0, .int .i64 0, .int .i64 0, .int .i64 0, .int .i64 0, .int .i64 0, .int .i64 0, .int .u64 0, .int .u64 0, .int .i64 0, .int .i64 0, .int .i64 0, .int .i64 0, .int .i64 0, .int .i64 0, .int .u64 0, .int .i64 0, .int .i64 0, .int .i64 0, .int .i64 0, .int .i64 0] 102 44 rfl
  have qb : wb.heap.size = w1.heap.size + 1 + 1 := by omega
  rw [qa] at ob
  have HBZ := hide (show Below w.heap.size w wb from HB.out.trans (Below.mono (bcall ba bb) (by omega)))
  have HK1a := hide (K1.out.below (bcall ba bb))
  have HK2a := hide (K2.out.below (bcall ba bb))
  have HEa := hide ea
  have HOa := hide oa
  have HEb := hide eb
  have HOb := hide ob
  have HTa := hide (show Below wa.heap.size wa wb from bb)
  have hpz : wb.heap.size = w1.heap.size + 1 + 1 := qb
  have HPZ := hide hpz
  have HLEN := hide (show es.length = q.ws.length from gh2)
  skip
  clear hsz1 ea sa ba oa qa eb sb bb ob qb hpz
  have cz : wb.cell? ⟨w.heap.size + 1, 30, none⟩ = some (hdV v.ws) := HK1a.out.cell 30
  have HBI := hide (show q.ws.length * 368 ≤ 140737488351232 from s5.2)
  go_upto_region 34 with (first
    | (at_builtin; refine wpList_append_sl _ rfl _ _ 62 rfl (w1.heap.size + 1) 102 i0 (.agg (wkE (zeroW, hd0)).toArray) 44 368 Tryz.underlying62 hi hz0 hz1 hz2 rfl (by decide) _ 1 _ rfl HOb.out _ es rfl ((Sl.rel gh1 (rel_er G w)).below HBZ.out) wkE_len wkE_one (by have := HLEN.out; have := HBI.out; unfold maxLen; omega) (by have := HLEN.out; have := HBI.out; omega) (by have := HPZ.out; omega) ?_; intro v_ wy hown hby; have HOW := hide hown; have HBY := hide hby; obtain ⟨x_, rfl⟩ := own_hd hown; have HK1y := hide ((hby.block (w.heap.size + 1) (by have := HS.out; omega)).trans HK1a.out); have HK2y := hide ((hby.block (w.heap.size + 2) (by have := HS.out; omega)).trans HK2a.out); have cy : wy.cell? ⟨w.heap.size + 1, 30, none⟩ = some (hdV v.ws) := (show Bc _ wy _ _ from HK1y.out).cell 30; have fy : wy.frozen? ⟨w.heap.size + 1, 30, none⟩ = false := (show Bc _ wy _ _ from HK1y.out).free 30; clear hown hby)
    | (rw [HEa.out, HEb.out]; refine wpList_loadc rfl _ _ rfl _ rfl _ cz _ Tryz.underlying62 rfl ?_))
  have hsz1 := HS.out
  obtain ⟨wk, ek⟩ : ∃ W, wy.setCell ⟨w.heap.size + 1, 30, none⟩ (hdV x_) = W := ⟨_, rfl⟩
  rw [ek]
  have hK1 := Bc.set (show Bc 66 wy (w.heap.size + 1) (stL q v) from HK1y.out) 30 (hdV x_)
  have hK2 := bc_other (show Bc 66 wy (w.heap.size + 2) st0Sa from HK2y.out) (by omega : w.heap.size + 2 ≠ w.heap.size + 1) 30 (hdV x_)
  have hBy : Below w.heap.size w wy := HBZ.out.trans (HBY.out.mono (by omega))
  have hHB := hBy.setCell (p := ⟨w.heap.size + 1, 30, none⟩) (by simp : w.heap.size ≤ w.heap.size + 1) (hdV x_)
  have g1 := grown_setSa wy (w.heap.size + 1) 30 (hdV x_)
  rw [ek] at hK1 hK2 hHB g1
  subst hn
  have HK1 := hide (show Bc 66 wk (w.heap.size + 1) (stL { q with ws := ⟨((to % 8 : Nat) : Int), 0, 0, 0, 0, [(at_ : Int)], zeroMc, zeroCm, zeroG⟩ :: q.ws } ⟨v.ob, v.rg, v.pg, v.pk, v.hob, v.m, v.bins, v.acks, v.bl, x_, v.ms⟩) from hK1)
  have HK2 := hide hK2
  have HHB := hide hHB
  clear hK1 hK2 hHB ek cz cy fy z0 z1 z2
  have hbl : Below w.heap.size w (wk.setRow (w.heap.size + 2) (stL { q with ws := ⟨((to % 8 : Nat) : Int), 0, 0, 0, 0, [(at_ : Int)], zeroMc, zeroCm, zeroG⟩ :: q.ws } ⟨v.ob, v.rg, v.pg, v.pk, v.hob, v.m, v.bins, v.acks, v.bl, x_, v.ms⟩).toArray) := below_setRow HHB.out (by omega) _
  have hel := rel_er_below (G := G) hbl
  have g2 := grown_row wk (w.heap.size + 2) (stL { q with ws := ⟨((to % 8 : Nat) : Int), 0, 0, 0, 0, [(at_ : Int)], zeroMc, zeroCm, zeroG⟩ :: q.ws } ⟨v.ob, v.rg, v.pg, v.pk, v.hob, v.m, v.bins, v.acks, v.bl, x_, v.ms⟩).toArray
  have hOw := own_grown (own_grown (own_grown HOW.out g1 (by omega)) g2 (by omega)) (er_grown G _) (by omega)
  have HA0 := own_grown (own_grown (own_grown (own_bel (own_below HOa.out HTa.out) HBY.out (by omega)) g1 (by omega)) g2 (by omega)) (er_grown G _) (by omega)
  have HN := hide (setRow_heap _ _ _ (stL { q with ws := ⟨((to % 8 : Nat) : Int), 0, 0, 0, 0, [(at_ : Int)], zeroMc, zeroCm, zeroG⟩ :: q.ws } ⟨v.ob, v.rg, v.pg, v.pk, v.hob, v.m, v.bins, v.acks, v.bl, x_, v.ms⟩).toArray _ _ HK2.out)
  go_wp2_with (first
    | (refine wpList_load_row rfl 66 (.tmp 3) rfl (w.heap.size + 1) rfl (stL { q with ws := ⟨((to % 8 : Nat) : Int), 0, 0, 0, 0, [(at_ : Int)], zeroMc, zeroCm, zeroG⟩ :: q.ws } ⟨v.ob, v.rg, v.pg, v.pk, v.hob, v.m, v.bins, v.acks, v.bl, x_, v.ms⟩).toArray _ _ _ HK1.out Tryz.underlying66 rfl (by kernel_rfl) ?_)
    | (refine wpList_store_row rfl 66 (.tmp 4) (.tmp 133) rfl (w.heap.size + 2) rfl (stL { q with ws := ⟨((to % 8 : Nat) : Int), 0, 0, 0, 0, [(at_ : Int)], zeroMc, zeroCm, zeroG⟩ :: q.ws } ⟨v.ob, v.rg, v.pg, v.pk, v.hob, v.m, v.bins, v.acks, v.bl, x_, v.ms⟩).toArray rfl _ _ HK2.out (by kernel_rfl) rfl (stA_one { q with ws := ⟨((to % 8 : Nat) : Int), 0, 0, 0, 0, [(at_ : Int)], zeroMc, zeroCm, zeroG⟩ :: q.ws } ⟨v.ob, v.rg, v.pg, v.pk, v.hob, v.m, v.bins, v.acks, v.bl, x_, v.ms⟩) ?_))
  refine bodyPost_ret (results_row Tryz.results23 (w.heap.size + 2) rfl _ _ _ _ HN.out Tryz.underlying66 rfl (by kernel_rfl)) rfl ?_
  have hbz := below_setRow HHB.out (by omega : w.heap.size ≤ w.heap.size + 2) (stL { q with ws := ⟨((to % 8 : Nat) : Int), 0, 0, 0, 0, [(at_ : Int)], zeroMc, zeroCm, zeroG⟩ :: q.ws } ⟨v.ob, v.rg, v.pg, v.pk, v.hob, v.m, v.bins, v.acks, v.bl, x_, v.ms⟩).toArray
  have hgr := grown_row wk (w.heap.size + 2) (stL { q with ws := ⟨((to % 8 : Nat) : Int), 0, 0, 0, 0, [(at_ : Int)], zeroMc, zeroCm, zeroG⟩ :: q.ws } ⟨v.ob, v.rg, v.pg, v.pk, v.hob, v.m, v.bins, v.acks, v.bl, x_, v.ms⟩).toArray
  skip
  exact ⟨⟨v.ob, v.rg, v.pg, v.pk, v.hob, v.m, v.bins, v.acks, v.bl, x_, v.ms⟩, rfl, ⟨R0.out.rel hel, R1.out.rel hel, Sl.rel R2.out hel, R3.out.rel hel, Sl.rel R4.out hel, Sl.rel R5.out hel, wks_cons (x := ((⟨((to % 8 : Nat) : Int), 0, 0, 0, 0, [(at_ : Int)], zeroMc, zeroCm, zeroG⟩ : Wq), ((some ⟨w1.heap.size, 0, none⟩, 1, 1) : Hd))) hOw ⟨rfl, Sl.of_own (l := [(at_ : Int)]) ic_len HA0⟩ gh2 (fun i u l hu hl => (gh3 i u l hu hl).rel hel), R7.out.rel hel⟩, hbz⟩
set_option maxRecDepth 100000 in
set_option maxHeartbeats 4000000 in
theorem turned_13 (G : Nat) (wh at_ to : Nat) (q : Sq) (v : Sv) (w : World) (_hG : G ≤ w.heap.size) (hR : StR (er G w) v q) (hS : SmS q) (hw : wh < 256) (_ha : at_ < 256) (ht : to < 256) (hk : wh % 16 = 13) :
    Calls Tryz.prog 23 #[.agg #[.int .u8 (wh : Nat), .int .u8 (at_ : Nat), .int .u8 (to : Nat)], .agg (stL q v).toArray] w fun e w' => ∃ v' : Sv, e = .returned (.agg (stL { q with ms := ⟨0, ((to % 8 : Nat) : Int), 0, 0, 0, 0, 0, 0, [((to % 8 : Nat) : Int)], [(at_ : Int)], [], zeroCm, zeroG⟩ :: q.ms } v').toArray) ∧ StR (er G w') v' { q with ms := ⟨0, ((to % 8 : Nat) : Int), 0, 0, 0, 0, 0, 0, [((to % 8 : Nat) : Int)], [(at_ : Int)], [], zeroCm, zeroG⟩ :: q.ms } ∧ Below w.heap.size w w' := by
  obtain ⟨h0, h1, h2, h3, h4, h5, h6, h7⟩ := hR
  obtain ⟨s0, s1, s2, s3, s4, s5, s6⟩ := hS
  obtain ⟨w1, e1, k0, k1, k2, hb1, hs1⟩ := three_box w [.int .u8 (wh : Nat), .int .u8 (at_ : Nat), .int .u8 (to : Nat)] (stL q v) st0Sa 33 66 66
  have E1 := hide e1
  have K0 := hide k0
  have K1 := hide k1
  have K2 := hide k2
  have HB := hide hb1
  obtain ⟨n, hn, hn8⟩ : ∃ n : Nat, to % 8 = n ∧ n < 8 := ⟨_, rfl, Nat.mod_lt _ (by decide)⟩
  skip
  have z0 : w1.cell? ⟨w.heap.size, 0, none⟩ = some (.int .u8 (wh : Nat)) := k0.cell 0
  have z1 : w1.cell? ⟨w.heap.size, 1, none⟩ = some (.int .u8 (at_ : Nat)) := k0.cell 1
  have z2 : w1.cell? ⟨w.heap.size, 2, none⟩ = some (.int .u8 (to : Nat)) := k0.cell 2
  have t8 : (to : Int).tmod 8 = (n : Int) := by rw [Int.tmod_eq_emod_of_nonneg (by omega)]; omega
  have t16 : (wh : Int).tmod 16 = 13 := by rw [Int.tmod_eq_emod_of_nonneg (by omega)]; omega
  have u8 : IntKind.u8.wrap (n : Int) = (n : Int) := by simp [IntKind.wrap, IntKind.bits, IntKind.signed]; omega
  have u64 : IntKind.i64.wrap (n : Int) = (n : Int) := by simp [IntKind.wrap, IntKind.bits, IntKind.signed]; omega
  have R0 := hide h0
  have R1 := hide h1
  have R2 := hide h2
  have R3 := hide h3
  have R4 := hide h4
  have R5 := hide h5
  have R6 := hide h6
  have R7 := hide h7
  have HS := hide hs1
  clear e1 k0 k1 k2 hb1 h0 h1 h2 h3 h4 h5 h6 h7 hs1
  go_enter Tryz.func23, Tryz.ntmps23
  go_upto_region 1 with (fail)
  rw [E1.out]
  obtain ⟨i0, hi, hz0, hz1, hz2⟩ := info_parts infoUt
  obtain ⟨es, gh1, gh2, gh3⟩ := R7.out
  have wat : IntKind.i64.wrap (at_ : Int) = (at_ : Int) := by simp [IntKind.wrap, IntKind.bits, IntKind.signed]; omega
  have hsz1 := HS.out
  obtain ⟨wa, ea, sa, ba, oa⟩ := row_newN w1 [.int .i64 (at_ : Int)] 3 1 rfl
  have qa : wa.heap.size = w1.heap.size + 1 := by omega
  obtain ⟨wb, eb, sb, bb, ob⟩ := row_newN wa [.int .i64 (n : Int)] 3 1 rfl
  have qb : wb.heap.size = w1.heap.size + 1 + 1 := by omega
  rw [qa] at ob
  obtain ⟨wc, ec, sc, bc, oc⟩ := row_newN wb [.int .i64 0, .int .i64 (n : Int), .int .i64 0, .int .i64 0, .int .i64 0, .int .i64 0, .int .i64 0, .int .i64 0, .slice (some ⟨w1.heap.size + 1, 0, none⟩) 1 1, .slice (some ⟨w1.heap.size, 0, none⟩) 1 1, .slice none 0 0, .int .i64 0, .int .i64 0, .int .i64 0, .int .i64 0, .int .u64 0, .int .i64 0, .int .i64 0, .int .i64 0, .int .i64 0, .int .i64 0, .int .i64 0, .int .i64 0, .int .i64 0, .int .i64 0, .int .i64 0, .int .i64 0, .int .u64 0, .int .u64 0, .int .i64 0, .int .i64 0, .int .i64 0, .int .i64 0, .int .i64 0, .int .i64 0, .int .u64 0, .int .i64 0, .int .i64 0, .int .i64 0, .int .i64 0, .int .i64 0] 93 41 rfl
  have qc : wc.heap.size = w1.heap.size + 1 + 1 + 1 := by omega
  rw [qb] at oc
  have HBZ := hide (show Below w.heap.size w wc from HB.out.trans (Below.mono (bcall ba (bcall bb bc)) (by omega)))
  have HK1a := hide (K1.out.below (bcall ba (bcall bb bc)))
  have HK2a := hide (K2.out.below (bcall ba (bcall bb bc)))
  have HEa := hide ea
  have HOa := hide oa
  have HEb := hide eb
  have HOb := hide ob
  have HEc := hide ec
  have HOc := hide oc
  have HTa := hide (show Below wa.heap.size wa wc from bcall bb bc)
  have HTb := hide (show Below wb.heap.size wb wc from bc)
  have hpz : wc.heap.size = w1.heap.size + 1 + 1 + 1 := qc
  have HPZ := hide hpz
  have HLEN := hide (show es.length = q.ms.length from gh2)
  skip
  clear hsz1 ea sa ba oa qa eb sb bb ob qb ec sc bc oc qc hpz
  have cz : wc.cell? ⟨w.heap.size + 1, 31, none⟩ = some (hdV v.ms) := HK1a.out.cell 31
  have HBI := hide (show q.ms.length * 376 ≤ 140737488351232 from s6.2)
  go_upto_region 34 with (first
    | (at_builtin; refine wpList_append_sl _ rfl _ _ 63 rfl (w1.heap.size + 1 + 1) 93 i0 (.agg (utE (zeroU, hd0, hd0, hd0)).toArray) 41 376 Tryz.underlying63 hi hz0 hz1 hz2 rfl (by decide) _ 1 _ rfl HOc.out _ es rfl ((Sl.rel gh1 (rel_er G w)).below HBZ.out) utE_len utE_one (by have := HLEN.out; have := HBI.out; unfold maxLen; omega) (by have := HLEN.out; have := HBI.out; omega) (by have := HPZ.out; omega) ?_; intro v_ wy hown hby; have HOW := hide hown; have HBY := hide hby; obtain ⟨x_, rfl⟩ := own_hd hown; have HK1y := hide ((hby.block (w.heap.size + 1) (by have := HS.out; omega)).trans HK1a.out); have HK2y := hide ((hby.block (w.heap.size + 2) (by have := HS.out; omega)).trans HK2a.out); have cy : wy.cell? ⟨w.heap.size + 1, 31, none⟩ = some (hdV v.ms) := (show Bc _ wy _ _ from HK1y.out).cell 31; have fy : wy.frozen? ⟨w.heap.size + 1, 31, none⟩ = false := (show Bc _ wy _ _ from HK1y.out).free 31; clear hown hby)
    | (rw [HEa.out, HEb.out, HEc.out]; refine wpList_loadc rfl _ _ rfl _ rfl _ cz _ Tryz.underlying63 rfl ?_))
  have hsz1 := HS.out
  obtain ⟨wk, ek⟩ : ∃ W, wy.setCell ⟨w.heap.size + 1, 31, none⟩ (hdV x_) = W := ⟨_, rfl⟩
  rw [ek]
  have hK1 := Bc.set (show Bc 66 wy (w.heap.size + 1) (stL q v) from HK1y.out) 31 (hdV x_)
  have hK2 := bc_other (show Bc 66 wy (w.heap.size + 2) st0Sa from HK2y.out) (by omega : w.heap.size + 2 ≠ w.heap.size + 1) 31 (hdV x_)
  have hBy : Below w.heap.size w wy := HBZ.out.trans (HBY.out.mono (by omega))
  have hHB := hBy.setCell (p := ⟨w.heap.size + 1, 31, none⟩) (by simp : w.heap.size ≤ w.heap.size + 1) (hdV x_)
  have g1 := grown_setSa wy (w.heap.size + 1) 31 (hdV x_)
  rw [ek] at hK1 hK2 hHB g1
  subst hn
  have HK1 := hide (show Bc 66 wk (w.heap.size + 1) (stL { q with ms := ⟨0, ((to % 8 : Nat) : Int), 0, 0, 0, 0, 0, 0, [((to % 8 : Nat) : Int)], [(at_ : Int)], [], zeroCm, zeroG⟩ :: q.ms } ⟨v.ob, v.rg, v.pg, v.pk, v.hob, v.m, v.bins, v.acks, v.bl, v.ws, x_⟩) from hK1)
  have HK2 := hide hK2
  have HHB := hide hHB
  clear hK1 hK2 hHB ek cz cy fy z0 z1 z2
  have hbl : Below w.heap.size w (wk.setRow (w.heap.size + 2) (stL { q with ms := ⟨0, ((to % 8 : Nat) : Int), 0, 0, 0, 0, 0, 0, [((to % 8 : Nat) : Int)], [(at_ : Int)], [], zeroCm, zeroG⟩ :: q.ms } ⟨v.ob, v.rg, v.pg, v.pk, v.hob, v.m, v.bins, v.acks, v.bl, v.ws, x_⟩).toArray) := below_setRow HHB.out (by omega) _
  have hel := rel_er_below (G := G) hbl
  have g2 := grown_row wk (w.heap.size + 2) (stL { q with ms := ⟨0, ((to % 8 : Nat) : Int), 0, 0, 0, 0, 0, 0, [((to % 8 : Nat) : Int)], [(at_ : Int)], [], zeroCm, zeroG⟩ :: q.ms } ⟨v.ob, v.rg, v.pg, v.pk, v.hob, v.m, v.bins, v.acks, v.bl, v.ws, x_⟩).toArray
  have hOw := own_grown (own_grown (own_grown HOW.out g1 (by omega)) g2 (by omega)) (er_grown G _) (by omega)
  have HA0 := own_grown (own_grown (own_grown (own_bel (own_below HOa.out HTa.out) HBY.out (by omega)) g1 (by omega)) g2 (by omega)) (er_grown G _) (by omega)
  have HA1 := own_grown (own_grown (own_grown (own_bel (own_below HOb.out HTb.out) HBY.out (by omega)) g1 (by omega)) g2 (by omega)) (er_grown G _) (by omega)
  have HN := hide (setRow_heap _ _ _ (stL { q with ms := ⟨0, ((to % 8 : Nat) : Int), 0, 0, 0, 0, 0, 0, [((to % 8 : Nat) : Int)], [(at_ : Int)], [], zeroCm, zeroG⟩ :: q.ms } ⟨v.ob, v.rg, v.pg, v.pk, v.hob, v.m, v.bins, v.acks, v.bl, v.ws, x_⟩).toArray _ _ HK2.out)
  go_wp2_with (first
    | (refine wpList_load_row rfl 66 (.tmp 3) rfl (w.heap.size + 1) rfl (stL { q with ms := ⟨0, ((to % 8 : Nat) : Int), 0, 0, 0, 0, 0, 0, [((to % 8 : Nat) : Int)], [(at_ : Int)], [], zeroCm, zeroG⟩ :: q.ms } ⟨v.ob, v.rg, v.pg, v.pk, v.hob, v.m, v.bins, v.acks, v.bl, v.ws, x_⟩).toArray _ _ _ HK1.out Tryz.underlying66 rfl (by kernel_rfl) ?_)
    | (refine wpList_store_row rfl 66 (.tmp 4) (.tmp 133) rfl (w.heap.size + 2) rfl (stL { q with ms := ⟨0, ((to % 8 : Nat) : Int), 0, 0, 0, 0, 0, 0, [((to % 8 : Nat) : Int)], [(at_ : Int)], [], zeroCm, zeroG⟩ :: q.ms } ⟨v.ob, v.rg, v.pg, v.pk, v.hob, v.m, v.bins, v.acks, v.bl, v.ws, x_⟩).toArray rfl _ _ HK2.out (by kernel_rfl) rfl (stA_one { q with ms := ⟨0, ((to % 8 : Nat) : Int), 0, 0, 0, 0, 0, 0, [((to % 8 : Nat) : Int)], [(at_ : Int)], [], zeroCm, zeroG⟩ :: q.ms } ⟨v.ob, v.rg, v.pg, v.pk, v.hob, v.m, v.bins, v.acks, v.bl, v.ws, x_⟩) ?_))
  refine bodyPost_ret (results_row Tryz.results23 (w.heap.size + 2) rfl _ _ _ _ HN.out Tryz.underlying66 rfl (by kernel_rfl)) rfl ?_
  have hbz := below_setRow HHB.out (by omega : w.heap.size ≤ w.heap.size + 2) (stL { q with ms := ⟨0, ((to % 8 : Nat) : Int), 0, 0, 0, 0, 0, 0, [((to % 8 : Nat) : Int)], [(at_ : Int)], [], zeroCm, zeroG⟩ :: q.ms } ⟨v.ob, v.rg, v.pg, v.pk, v.hob, v.m, v.bins, v.acks, v.bl, v.ws, x_⟩).toArray
  have hgr := grown_row wk (w.heap.size + 2) (stL { q with ms := ⟨0, ((to % 8 : Nat) : Int), 0, 0, 0, 0, 0, 0, [((to % 8 : Nat) : Int)], [(at_ : Int)], [], zeroCm, zeroG⟩ :: q.ms } ⟨v.ob, v.rg, v.pg, v.pk, v.hob, v.m, v.bins, v.acks, v.bl, v.ws, x_⟩).toArray
  skip
  exact ⟨⟨v.ob, v.rg, v.pg, v.pk, v.hob, v.m, v.bins, v.acks, v.bl, v.ws, x_⟩, rfl, ⟨R0.out.rel hel, R1.out.rel hel, Sl.rel R2.out hel, R3.out.rel hel, Sl.rel R4.out hel, Sl.rel R5.out hel, R6.out.rel hel, uts_cons (x := ((⟨0, ((to % 8 : Nat) : Int), 0, 0, 0, 0, 0, 0, [((to % 8 : Nat) : Int)], [(at_ : Int)], [], zeroCm, zeroG⟩ : Uq), ((some ⟨w1.heap.size + 1, 0, none⟩, 1, 1) : Hd), ((some ⟨w1.heap.size, 0, none⟩, 1, 1) : Hd), hd0)) hOw ⟨rfl, Sl.of_own (l := [((to % 8 : Nat) : Int)]) ic_len HA1, Sl.of_own (l := [(at_ : Int)]) ic_len HA0, Sl.nil_⟩ gh2 (fun i u l hu hl => (gh3 i u l hu hl).rel hel)⟩, hbz⟩
set_option maxRecDepth 100000 in
set_option maxHeartbeats 4000000 in
theorem turned_14 (G : Nat) (wh at_ to : Nat) (q : Sq) (v : Sv) (w : World) (_hG : G ≤ w.heap.size) (hR : StR (er G w) v q) (hS : SmS q) (hw : wh < 256) (_ha : at_ < 256) (ht : to < 256) (hk : wh % 16 = 14) :
    Calls Tryz.prog 23 #[.agg #[.int .u8 (wh : Nat), .int .u8 (at_ : Nat), .int .u8 (to : Nat)], .agg (stL q v).toArray] w fun e w' => ∃ v' : Sv, e = .returned (.agg (stL { q with ws := ⟨0, 0, 0, 0, 0, [], zeroMc, zeroCm, { zeroG with obj := ((to % 8 : Nat) : Int), d := { zeroMc with x := ((at_ % 2 : Nat) : Int) } }⟩ :: q.ws } v').toArray) ∧ StR (er G w') v' { q with ws := ⟨0, 0, 0, 0, 0, [], zeroMc, zeroCm, { zeroG with obj := ((to % 8 : Nat) : Int), d := { zeroMc with x := ((at_ % 2 : Nat) : Int) } }⟩ :: q.ws } ∧ Below w.heap.size w w' := by
  obtain ⟨h0, h1, h2, h3, h4, h5, h6, h7⟩ := hR
  obtain ⟨s0, s1, s2, s3, s4, s5, s6⟩ := hS
  obtain ⟨w1, e1, k0, k1, k2, hb1, hs1⟩ := three_box w [.int .u8 (wh : Nat), .int .u8 (at_ : Nat), .int .u8 (to : Nat)] (stL q v) st0Sa 33 66 66
  have E1 := hide e1
  have K0 := hide k0
  have K1 := hide k1
  have K2 := hide k2
  have HB := hide hb1
  obtain ⟨n, hn, hn8⟩ : ∃ n : Nat, to % 8 = n ∧ n < 8 := ⟨_, rfl, Nat.mod_lt _ (by decide)⟩
  skip
  have z0 : w1.cell? ⟨w.heap.size, 0, none⟩ = some (.int .u8 (wh : Nat)) := k0.cell 0
  have z1 : w1.cell? ⟨w.heap.size, 1, none⟩ = some (.int .u8 (at_ : Nat)) := k0.cell 1
  have z2 : w1.cell? ⟨w.heap.size, 2, none⟩ = some (.int .u8 (to : Nat)) := k0.cell 2
  have t8 : (to : Int).tmod 8 = (n : Int) := by rw [Int.tmod_eq_emod_of_nonneg (by omega)]; omega
  have t16 : (wh : Int).tmod 16 = 14 := by rw [Int.tmod_eq_emod_of_nonneg (by omega)]; omega
  have u8 : IntKind.u8.wrap (n : Int) = (n : Int) := by simp [IntKind.wrap, IntKind.bits, IntKind.signed]; omega
  have u64 : IntKind.i64.wrap (n : Int) = (n : Int) := by simp [IntKind.wrap, IntKind.bits, IntKind.signed]; omega
  have R0 := hide h0
  have R1 := hide h1
  have R2 := hide h2
  have R3 := hide h3
  have R4 := hide h4
  have R5 := hide h5
  have R6 := hide h6
  have R7 := hide h7
  have HS := hide hs1
  clear e1 k0 k1 k2 hb1 h0 h1 h2 h3 h4 h5 h6 h7 hs1
  go_enter Tryz.func23, Tryz.ntmps23
  go_upto_region 1 with (fail)
  rw [E1.out]
  obtain ⟨i0, hi, hz0, hz1, hz2⟩ := info_parts infoWk
  obtain ⟨es, gh1, gh2, gh3⟩ := R6.out
  obtain ⟨m2, hm, hm2⟩ : ∃ m : Nat, at_ % 2 = m ∧ m < 2 := ⟨_, rfl, Nat.mod_lt _ (by decide)⟩
  have t2 : (at_ : Int).tmod 2 = (m2 : Int) := by rw [Int.tmod_eq_emod_of_nonneg (by omega)]; omega
  have u8m : IntKind.u8.wrap (m2 : Int) = (m2 : Int) := by simp [IntKind.wrap, IntKind.bits, IntKind.signed]; omega
  have wat : IntKind.i64.wrap (m2 : Int) = (m2 : Int) := by simp [IntKind.wrap, IntKind.bits, IntKind.signed]; omega
  have hsz1 := HS.out
  obtain ⟨wa, ea, sa, ba, oa⟩ := row_newN w1 [.int .i64 0, .int .i64 0, .int .i64 0, .int .i64 0, .int .i64 0, .slice none 0 0, .int .i64 0, .int .i64 0, .int .i64 0, .int .i64 0, .int .u64 0, .int .u64 0, .int .i64 0, .int .i64 0, .int .i64 0, .int .i64 0, .int .i64 0, .int .i64 0, .int .u64 0, .int .i64 0, .int .i64 0, .int .i64 0, .int .i64 0, .int .i64 0, .int .i64 (n : Int), .int .i64 0, .int .i64 0, .int .i64 0, .int .i64 0, .int .i64 0, .int .u64 0, .int .u64 0, .int .i64 (m2 : Int), .int .i64 0, .int .i64 0, .int .i64 0, .int .i64 0, .int .i64 0, .int .u64 0, .int .i64 0, .int .i64 0, .int .i64 0, .int .i64 0, .int .i64 0] 102 44 rfl
  have qa : wa.heap.size = w1.heap.size + 1 := by omega
  have HBZ := hide (show Below w.heap.size w wa from HB.out.trans (Below.mono (ba) (by omega)))
  have HK1a := hide (K1.out.below (ba))
  have HK2a := hide (K2.out.below (ba))
  have HEa := hide ea
  have HOa := hide oa
  have hpz : wa.heap.size = w1.heap.size + 1 := qa
  have HPZ := hide hpz
  have HLEN := hide (show es.length = q.ws.length from gh2)
  skip
  clear hsz1 ea sa ba oa qa hpz
  have cz : wa.cell? ⟨w.heap.size + 1, 30, none⟩ = some (hdV v.ws) := HK1a.out.cell 30
  have HBI := hide (show q.ws.length * 368 ≤ 140737488351232 from s5.2)
  go_upto_region 34 with (first
    | (at_builtin; refine wpList_append_sl _ rfl _ _ 62 rfl (w1.heap.size) 102 i0 (.agg (wkE (zeroW, hd0)).toArray) 44 368 Tryz.underlying62 hi hz0 hz1 hz2 rfl (by decide) _ 1 _ rfl HOa.out _ es rfl ((Sl.rel gh1 (rel_er G w)).below HBZ.out) wkE_len wkE_one (by have := HLEN.out; have := HBI.out; unfold maxLen; omega) (by have := HLEN.out; have := HBI.out; omega) (by have := HPZ.out; omega) ?_; intro v_ wy hown hby; have HOW := hide hown; have HBY := hide hby; obtain ⟨x_, rfl⟩ := own_hd hown; have HK1y := hide ((hby.block (w.heap.size + 1) (by have := HS.out; omega)).trans HK1a.out); have HK2y := hide ((hby.block (w.heap.size + 2) (by have := HS.out; omega)).trans HK2a.out); have cy : wy.cell? ⟨w.heap.size + 1, 30, none⟩ = some (hdV v.ws) := (show Bc _ wy _ _ from HK1y.out).cell 30; have fy : wy.frozen? ⟨w.heap.size + 1, 30, none⟩ = false := (show Bc _ wy _ _ from HK1y.out).free 30; clear hown hby)
    | (rw [HEa.out]; refine wpList_loadc rfl _ _ rfl _ rfl _ cz _ Tryz.underlying62 rfl ?_))
  have hsz1 := HS.out
  obtain ⟨wk, ek⟩ : ∃ W, wy.setCell ⟨w.heap.size + 1, 30, none⟩ (hdV x_) = W := ⟨_, rfl⟩
  rw [ek]
  have hK1 := Bc.set (show Bc 66 wy (w.heap.size + 1) (stL q v) from HK1y.out) 30 (hdV x_)
  have hK2 := bc_other (show Bc 66 wy (w.heap.size + 2) st0Sa from HK2y.out) (by omega : w.heap.size + 2 ≠ w.heap.size + 1) 30 (hdV x_)
  have hBy : Below w.heap.size w wy := HBZ.out.trans (HBY.out.mono (by omega))
  have hHB := hBy.setCell (p := ⟨w.heap.size + 1, 30, none⟩) (by simp : w.heap.size ≤ w.heap.size + 1) (hdV x_)
  have g1 := grown_setSa wy (w.heap.size + 1) 30 (hdV x_)
  rw [ek] at hK1 hK2 hHB g1
  subst hn
  subst hm
  have HK1 := hide (show Bc 66 wk (w.heap.size + 1) (stL { q with ws := ⟨0, 0, 0, 0, 0, [], zeroMc, zeroCm, { zeroG with obj := ((to % 8 : Nat) : Int), d := { zeroMc with x := ((at_ % 2 : Nat) : Int) } }⟩ :: q.ws } ⟨v.ob, v.rg, v.pg, v.pk, v.hob, v.m, v.bins, v.acks, v.bl, x_, v.ms⟩) from hK1)
  have HK2 := hide hK2
  have HHB := hide hHB
  clear hK1 hK2 hHB ek cz cy fy z0 z1 z2
  have hbl : Below w.heap.size w (wk.setRow (w.heap.size + 2) (stL { q with ws := ⟨0, 0, 0, 0, 0, [], zeroMc, zeroCm, { zeroG with obj := ((to % 8 : Nat) : Int), d := { zeroMc with x := ((at_ % 2 : Nat) : Int) } }⟩ :: q.ws } ⟨v.ob, v.rg, v.pg, v.pk, v.hob, v.m, v.bins, v.acks, v.bl, x_, v.ms⟩).toArray) := below_setRow HHB.out (by omega) _
  have hel := rel_er_below (G := G) hbl
  have g2 := grown_row wk (w.heap.size + 2) (stL { q with ws := ⟨0, 0, 0, 0, 0, [], zeroMc, zeroCm, { zeroG with obj := ((to % 8 : Nat) : Int), d := { zeroMc with x := ((at_ % 2 : Nat) : Int) } }⟩ :: q.ws } ⟨v.ob, v.rg, v.pg, v.pk, v.hob, v.m, v.bins, v.acks, v.bl, x_, v.ms⟩).toArray
  have hOw := own_grown (own_grown (own_grown HOW.out g1 (by omega)) g2 (by omega)) (er_grown G _) (by omega)
  have HN := hide (setRow_heap _ _ _ (stL { q with ws := ⟨0, 0, 0, 0, 0, [], zeroMc, zeroCm, { zeroG with obj := ((to % 8 : Nat) : Int), d := { zeroMc with x := ((at_ % 2 : Nat) : Int) } }⟩ :: q.ws } ⟨v.ob, v.rg, v.pg, v.pk, v.hob, v.m, v.bins, v.acks, v.bl, x_, v.ms⟩).toArray _ _ HK2.out)
  go_wp2_with (first
    | (refine wpList_load_row rfl 66 (.tmp 3) rfl (w.heap.size + 1) rfl (stL { q with ws := ⟨0, 0, 0, 0, 0, [], zeroMc, zeroCm, { zeroG with obj := ((to % 8 : Nat) : Int), d := { zeroMc with x := ((at_ % 2 : Nat) : Int) } }⟩ :: q.ws } ⟨v.ob, v.rg, v.pg, v.pk, v.hob, v.m, v.bins, v.acks, v.bl, x_, v.ms⟩).toArray _ _ _ HK1.out Tryz.underlying66 rfl (by kernel_rfl) ?_)
    | (refine wpList_store_row rfl 66 (.tmp 4) (.tmp 133) rfl (w.heap.size + 2) rfl (stL { q with ws := ⟨0, 0, 0, 0, 0, [], zeroMc, zeroCm, { zeroG with obj := ((to % 8 : Nat) : Int), d := { zeroMc with x := ((at_ % 2 : Nat) : Int) } }⟩ :: q.ws } ⟨v.ob, v.rg, v.pg, v.pk, v.hob, v.m, v.bins, v.acks, v.bl, x_, v.ms⟩).toArray rfl _ _ HK2.out (by kernel_rfl) rfl (stA_one { q with ws := ⟨0, 0, 0, 0, 0, [], zeroMc, zeroCm, { zeroG with obj := ((to % 8 : Nat) : Int), d := { zeroMc with x := ((at_ % 2 : Nat) : Int) } }⟩ :: q.ws } ⟨v.ob, v.rg, v.pg, v.pk, v.hob, v.m, v.bins, v.acks, v.bl, x_, v.ms⟩) ?_))
  refine bodyPost_ret (results_row Tryz.results23 (w.heap.size + 2) rfl _ _ _ _ HN.out Tryz.underlying66 rfl (by kernel_rfl)) rfl ?_
  have hbz := below_setRow HHB.out (by omega : w.heap.size ≤ w.heap.size + 2) (stL { q with ws := ⟨0, 0, 0, 0, 0, [], zeroMc, zeroCm, { zeroG with obj := ((to % 8 : Nat) : Int), d := { zeroMc with x := ((at_ % 2 : Nat) : Int) } }⟩ :: q.ws } ⟨v.ob, v.rg, v.pg, v.pk, v.hob, v.m, v.bins, v.acks, v.bl, x_, v.ms⟩).toArray
  have hgr := grown_row wk (w.heap.size + 2) (stL { q with ws := ⟨0, 0, 0, 0, 0, [], zeroMc, zeroCm, { zeroG with obj := ((to % 8 : Nat) : Int), d := { zeroMc with x := ((at_ % 2 : Nat) : Int) } }⟩ :: q.ws } ⟨v.ob, v.rg, v.pg, v.pk, v.hob, v.m, v.bins, v.acks, v.bl, x_, v.ms⟩).toArray
  skip
  exact ⟨⟨v.ob, v.rg, v.pg, v.pk, v.hob, v.m, v.bins, v.acks, v.bl, x_, v.ms⟩, rfl, ⟨R0.out.rel hel, R1.out.rel hel, Sl.rel R2.out hel, R3.out.rel hel, Sl.rel R4.out hel, Sl.rel R5.out hel, wks_cons (x := ((⟨0, 0, 0, 0, 0, [], zeroMc, zeroCm, { zeroG with obj := ((to % 8 : Nat) : Int), d := { zeroMc with x := ((at_ % 2 : Nat) : Int) } }⟩ : Wq), hd0)) hOw ⟨rfl, Sl.nil_⟩ gh2 (fun i u l hu hl => (gh3 i u l hu hl).rel hel), R7.out.rel hel⟩, hbz⟩
end Go.Proofs.YtdmbcjckgfjcaaaGreatDoor
/- Layer state: a field turned, whichever. -/
namespace Go.Proofs.YtdmbcjckgfjcaaaGreatDoor
open Go.RowKit Go.Joins Go.Shelf
/-- whatever block G holds -/
theorem turned_x (G : Nat) (wh at_ to : Nat) (q : Sq) (v : Sv) (w : World) (hG : G ≤ w.heap.size) (hR : StR (er G w) v q) (hS : SmS q) (hw : wh < 256) (ha : at_ < 256) (ht : to < 256) :
    Calls Tryz.prog 23 #[.agg #[.int .u8 (wh : Nat), .int .u8 (at_ : Nat), .int .u8 (to : Nat)], .agg (stL q v).toArray] w fun e w' => ∃ v' : Sv, e = .returned (.agg (stL (turnS wh at_ to q) v').toArray) ∧ StR (er G w') v' (turnS wh at_ to q) ∧ Below w.heap.size w w' := by
  have hk : wh % 16 = 0 ∨ wh % 16 = 1 ∨ wh % 16 = 2 ∨ wh % 16 = 3 ∨ wh % 16 = 4 ∨ wh % 16 = 5 ∨ wh % 16 = 6 ∨ wh % 16 = 7 ∨ wh % 16 = 8 ∨ wh % 16 = 9 ∨ wh % 16 = 10 ∨ wh % 16 = 11 ∨ wh % 16 = 12 ∨ wh % 16 = 13 ∨ wh % 16 = 14 ∨ wh % 16 = 15 := by omega
  unfold turnS
  rcases hk with hk | hk | hk | hk | hk | hk | hk | hk | hk | hk | hk | hk | hk | hk | hk | hk <;> rw [hk]
  · exact turned_0 G wh at_ to q v w hG hR hS hw ha ht hk
  · exact turned_1 G wh at_ to q v w hG hR hS hw ha ht hk
  · exact turned_2 G wh at_ to q v w hG hR hS hw ha ht hk
  · exact turned_3 G wh at_ to q v w hG hR hS hw ha ht hk
  · exact turned_4 G wh at_ to q v w hG hR hS hw ha ht hk
  · exact turned_5 G wh at_ to q v w hG hR hS hw ha ht hk
  · exact turned_6 G wh at_ to q v w hG hR hS hw ha ht hk
  · exact turned_7 G wh at_ to q v w hG hR hS hw ha ht hk
  · exact turned_8 G wh at_ to q v w hG hR hS hw ha ht hk
  · exact turned_9 G wh at_ to q v w hG hR hS hw ha ht hk
  · exact turned_10 G wh at_ to q v w hG hR hS hw ha ht hk
  · exact turned_11 G wh at_ to q v w hG hR hS hw ha ht hk
  · exact turned_12 G wh at_ to q v w hG hR hS hw ha ht hk
  · exact turned_13 G wh at_ to q v w hG hR hS hw ha ht hk
  · exact turned_14 G wh at_ to q v w hG hR hS hw ha ht hk
  · exact turned_15 G wh at_ to q v w hG hR hS hw ha ht hk
theorem turned_anySa (wh at_ to : Nat) (q : Sq) (v : Sv) (w : World) (hR : StR w v q) (hS : SmS q) (hw : wh < 256) (ha : at_ < 256) (ht : to < 256) :
    Calls Tryz.prog 23 #[.agg #[.int .u8 (wh : Nat), .int .u8 (at_ : Nat), .int .u8 (to : Nat)], .agg (stL q v).toArray] w fun e w' => ∃ v' : Sv, e = .returned (.agg (stL (turnS wh at_ to q) v').toArray) ∧ StR w' v' (turnS wh at_ to q) ∧ Below w.heap.size w w' :=
  (turned_x w.heap.size wh at_ to q v w (Nat.le_refl _) (by rw [er_none (Nat.le_refl _)]; exact hR) hS hw ha ht).mono fun _ w' ⟨v', h1, h2, h3⟩ => ⟨v', h1, h2.rel (rel_er _ w'), h3⟩
end Go.Proofs.YtdmbcjckgfjcaaaGreatDoor
